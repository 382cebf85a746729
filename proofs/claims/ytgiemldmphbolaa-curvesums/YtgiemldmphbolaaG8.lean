/- X9, P4, Crv5, laid together. -/
import Derived.Laws.CopyRow
import Derived.Test.YtgiemldmphbolaaG4
import Derived.Test.YtgiemldmphbolaaG5
import Derived.Test.YtgiemldmphbolaaG6
namespace Go.Proofs.Ytgiemldmphbolaa
open Go.RowKit

/-- The cells of several numbers, one behind the other. -/
def cis (l : List Nat) : Array Value := (l.flatMap fun n => (ai 22 (dg n)).toList).toArray
theorem ail (n : Nat) : (ai 22 (dg n)).toList.length = 22 := by simp [ai_size]
theorem cis_size (l : List Nat) : (cis l).size = 22 * l.length := by
  unfold cis
  simp only [List.size_toArray]
  induction l with
  | nil => rfl
  | cons n l ih => rw [List.flatMap_cons, List.length_append, ih, ail, List.length_cons]; omega
theorem cis_get : ∀ (l : List Nat) (k n j : Nat), l[k]? = some n → j < 22 → (cis l)[22 * k + j]? = some (.int .i64 ((dg n j : Nat) : Int)) := by
  intro l
  induction l with
  | nil => intro k n j h; simp at h
  | cons m l ih =>
    intro k n j h hj
    unfold cis at *
    simp only [List.getElem?_toArray, List.flatMap_cons]
    cases k with
    | zero =>
      simp at h; subst h
      rw [List.getElem?_append_left (by rw [ail]; omega)]
      have : (ai 22 (dg m))[j]? = some (.int .i64 ((dg m j : Nat) : Int)) := arr_get _ _ _ hj
      simpa using this
    | succ k =>
      rw [List.getElem?_append_right (by rw [ail]; omega)]
      have := ih k n j (by simpa using h) hj
      simp only [List.getElem?_toArray] at this
      rw [← this, ail]
      congr 1
      omega
theorem cis_one (l : List Nat) : (cis l).all (·.oneCell') = true := by
  rw [Array.all_eq_true_iff_forall_mem]
  intro v hv
  unfold cis at hv
  simp only [List.mem_toArray, List.mem_flatMap] at hv
  obtain ⟨n, _, h⟩ := hv
  exact Array.all_eq_true_iff_forall_mem.1 (ai_one 22 (dg n)) v (by simpa using h)
theorem load_part {P : Program} (u : World) (b off n : Nat) (f : Nat → Value) (h : ∀ j, j < n → u.cell? ⟨b, off + j, none⟩ = some (f j)) :
    (loadCells ⟨b, off, none⟩ n).run P u = .ok (arr n f) u := by
  have := run_loadCells_list (P := P) u ⟨b, off, none⟩ (arr n f).toList (fun j v hv => by
    have e : (⟨b, off, none⟩ : Addr).add j = ⟨b, off + j, none⟩ := by unfold Addr.add; split <;> simp_all
    rw [e]
    have hj : j < n := by
      have := (List.getElem?_eq_some_iff.1 hv).1
      simpa [arr] using this
    rw [h j hj]
    have : (arr n f)[j]? = some v := by simpa using hv
    rw [arr_get _ _ _ hj] at this
    exact this)
  simpa [arr] using this
theorem ld_cis {l : List Nat} {k n : Nat} (t0 : TypeId) (hk : l[k]? = some n) (w : World) (q : Nat) (h : w.heap[q]? = some (.cells (cis l) t0 (0, 0))) : (Instr.loadAt 35 (.pointer (some ⟨q, 22 * k, none⟩))).run Try.prog w = .ok (.agg (ai 22 (dg n))) w := by
  have h1 := load_part (P := Try.prog) w q (22 * k) 22 (fun j => .int .i64 ((dg n j : Nat) : Int)) (fun j hj => by
    rw [cell_of_row _ _ _ _ _ _ h, cis_get l k n j hk hj])
  have h0 : (isAgg 35).run Try.prog w = .ok true w := by kernel_rfl
  have h2 : (sizeOf 35).run Try.prog w = .ok 22 w := by kernel_rfl
  simp only [Instr.loadAt, Instr.sureAddr, loadVar, Sem.run_bind, Sem.run_pure, Result.andThen_ok, h0, if_true, h2, h1]
  rfl
theorem st_cis {c : Array Value} {v off : Nat} {n : Array Value} (t0 : TypeId) (hc : off + 22 ≤ c.size) (hn : (c.toList.take off ++ (ai 22 (dg v)).toList ++ c.toList.drop (off + 22)).toArray = n) (w : World) (q : Nat) (h : w.heap[q]? = some (.cells c t0 (0, 0))) : (Instr.storeAt 35 (.pointer (some ⟨q, off, none⟩)) (.agg (ai 22 (dg v)))).run Try.prog w = .ok () (w.setRow q n) := by
  have h1 := run_storeCells_at (P := Try.prog) q off t0 (ai 22 (dg v)).toList 0 c w h (by rw [ail]; omega) (fun x hx => Array.all_eq_true_iff_forall_mem.1 (ai_one 22 (dg v)) x (by simpa using hx))
  rw [ail, Nat.add_zero, hn] at h1
  have h2 : (sizeOf 35).run Try.prog w = .ok 22 w := by kernel_rfl
  have h3 : (Value.agg (ai 22 (dg v))).cells = ai 22 (dg v) := rfl
  simp only [Instr.storeAt, Instr.sureAddr, storeVar, Sem.run_bind, Sem.run_pure, Result.andThen_ok, h2, h3, ai_size, ne_eq, not_true_eq_false, if_false, h1]
theorem cis_set0 (a b c d v : Nat) : ((cis [a, b, c, d]).toList.take 0 ++ (ai 22 (dg v)).toList ++ (cis [a, b, c, d]).toList.drop (0 + 22)).toArray = cis [v, b, c, d] := by
  have := ail a
  simp only [cis, List.flatMap_cons, List.take_zero, List.nil_append, Nat.zero_add]
  rw [List.drop_append_of_le_length (by omega), List.drop_of_length_le (by omega), List.nil_append]
theorem cis_set3 (a b c d v : Nat) : ((cis [a, b, c, d]).toList.take 66 ++ (ai 22 (dg v)).toList ++ (cis [a, b, c, d]).toList.drop (66 + 22)).toArray = cis [a, b, c, v] := by
  have e : (cis [a, b, c, d]).toList = ((ai 22 (dg a)).toList ++ ((ai 22 (dg b)).toList ++ (ai 22 (dg c)).toList)) ++ (ai 22 (dg d)).toList := by simp [cis]
  rw [e, List.take_append_of_le_length (by simp [ai_size]), List.take_of_length_le (by simp [ai_size]), List.drop_of_length_le (by simp [ai_size])]
  simp [cis]
theorem ldR {a b c d : Nat} (t0 : TypeId) (w : World) (q : Nat) (h : w.heap[q]? = some (.cells (cis [a, b, c, d]) t0 (0, 0))) : (Instr.loadAt 37 (.pointer (some ⟨q, 0, none⟩))).run Try.prog w = .ok (.agg (cis [a, b, c, d])) w :=
  ld_row (c := cis [a, b, c, d]) Try.underlying37 rfl (by rw [cis_size]; kernel_rfl) w q h
theorem stR {a b c d : Nat} {e : Array Value} (t0 : TypeId) (hc : e.size = 88) (w : World) (q : Nat) (h : w.heap[q]? = some (.cells e t0 (0, 0))) : (Instr.storeAt 37 (.pointer (some ⟨q, 0, none⟩)) (.agg (cis [a, b, c, d]))).run Try.prog w = .ok () (w.setRow q (cis [a, b, c, d])) :=
  st_row (n := cis [a, b, c, d]) (by rw [cis_size]; kernel_rfl) (by rw [hc, cis_size]; rfl) (cis_one _) w q h
theorem bxR {a b c d : Nat} (w : World) : (Instr.box 37 (.agg (cis [a, b, c, d]))).run Try.prog w = .ok (.pointer (some ⟨w.heap.size, 0, none⟩)) (w.alloc (.cells (cis [a, b, c, d]) 37)) := bx_agg w
theorem cis_zero : cis [0, 0, 0, 0] = ⟨List.replicate 88 (.int .i64 0)⟩ := by
  have h : (ai 22 (dg 0)).toList = List.replicate 22 (.int .i64 0) := by
    have : ai 22 (dg 0) = ⟨List.replicate 22 (.int .i64 0)⟩ := by rw [← ai_zero]; exact ai_congr fun i _ => by simp [dg]
    rw [this]
  simp only [cis, List.flatMap_cons, List.flatMap_nil, h]
  simp
theorem alR (w : World) : (Instr.alloc 37 true (.tuple #[])).run Try.prog w = .ok (.pointer (some ⟨w.heap.size, 0, none⟩)) (w.alloc (.cells (cis [0, 0, 0, 0]) 37)) := by
  rw [cis_zero]
  simp [Instr.alloc, go_sem]
  rfl
theorem bdR {a b c d : Nat} (w : World) : (Instr.build 37 #[(0, .agg (ai 22 (dg a))), (1, .agg (ai 22 (dg b))), (2, .agg (ai 22 (dg c))), (3, .agg (ai 22 (dg d)))]).run Try.prog w = .ok (.agg (cis [a, b, c, d])) w := by kernel_rfl
theorem bdR2 {b c : Nat} (w : World) : (Instr.build 37 #[(1, .agg (ai 22 (dg b))), (2, .agg (ai 22 (dg c)))]).run Try.prog w = .ok (.agg (cis [0, b, c, 0])) w := by kernel_rfl
theorem ix_r {n : Nat} (w : World) : (Instr.index 35 (.agg (ai 22 (dg n))) (.int .i64 ((0 : Nat) : Int))).run Try.prog w = .ok (.int .i64 ((dg n 0 : Nat) : Int)) w := by
  have : (ai 22 (dg n))[0]? = some (.int .i64 ((dg n 0 : Nat) : Int)) := arr_get _ _ _ (by omega)
  simp [Instr.index, go_sem, this]
end Go.Proofs.Ytgiemldmphbolaa

namespace Go.Proofs.Ytgiemldmphbolaa
open Go.RowKit

theorem plus_rm {m n : Nat} (hm : m < pp) (hn : n < pp) (w : World) : Calls Try.prog 42 #[.agg (ai 22 (dg m)), .agg (ai 22 (dg n))] w fun e w' => e = .returned (.agg (ai 22 (dg (ad m n)))) ∧ Below w.heap.size w w' := plus_r (lt_big hm) (lt_big hn) w
theorem minus_rm {m n : Nat} (hm : m < pp) (hn : n < pp) (w : World) : Calls Try.prog 41 #[.agg (ai 22 (dg m)), .agg (ai 22 (dg n))] w fun e w' => e = .returned (.agg (ai 22 (dg (sb m n)))) ∧ Below w.heap.size w w' := minus_r (lt_big hm) (Nat.le_of_lt hn) w
theorem times_rm {m n : Nat} (hm : m < pp) (hn : n < pp) (w : World) : Calls Try.prog 38 #[.agg (ai 22 (dg m)), .agg (ai 22 (dg n))] w fun e w' => e = .returned (.agg (ai 22 (dg (mu m n)))) ∧ Below w.heap.size w w' := times_r (lt_big hm) (lt_big hn) w
theorem over_rm {m n : Nat} (hm : m < pp) (hn : n < pp) (w : World) : Calls Try.prog 40 #[.agg (ai 22 (dg m)), .agg (ai 22 (dg n))] w fun e w' => e = .returned (.agg (ai 22 (dg (mu m (inv n))))) ∧ Below w.heap.size w w' := by
  obtain ⟨k, hk⟩ : ∃ k : Nat, k = 57896044618658097711785492504343953926634992332820282019728792003956564819947 := ⟨_, rfl⟩
  have := over_r hm hn hk w
  rwa [inv_pow_eq hk] at this
theorem key_rm {n : Nat} (hn : n < pp) (w : World) : Calls Try.prog 35 #[.agg (ai 22 (dg n))] w fun e w' => e = .returned (.agg (ck (kb n))) ∧ Below w.heap.size w w' := key_r (pp_256 hn) w
theorem kb_top {n : Nat} (hn : n < pp) : kb n 31 < 128 := by rw [← byt_kb n 31 (by omega)]; exact byt_top hn
theorem dg_par4 (n : Nat) : dg n 0 % 2 = n % 2 := dg_par n
theorem qu_b {x u : Operand} {m : Nat} (h : m < 256) (w : World) : (do eqGuard .quo 5 x u (.int .u8 ((m : Nat) : Int)) (.int .u8 ((128 : Nat) : Int)); binOp .quo 5 (.int .u8 ((m : Nat) : Int)) (.int .u8 ((128 : Nat) : Int))).run Try.prog w = .ok (.int .u8 ((m / 128 : Nat) : Int)) w := by
  have h1 : IntKind.u8.wrap ((m : Int) / 128) = (m : Int) / 128 := by rw [IntKind.wrap_u8]; omega
  simp [eqGuard, binOp, go_sem, h1]
theorem re_b {x u : Operand} {m : Nat} (w : World) : (do eqGuard .rem 5 x u (.int .u8 ((m : Nat) : Int)) (.int .u8 ((128 : Nat) : Int)); binOp .rem 5 (.int .u8 ((m : Nat) : Int)) (.int .u8 ((128 : Nat) : Int))).run Try.prog w = .ok (.int .u8 ((m % 128 : Nat) : Int)) w := by
  have h1 : (m : Int).tmod 128 = (m : Int) % 128 := Int.tmod_eq_emod_of_nonneg (by omega)
  simp [eqGuard, binOp, go_sem, h1]
end Go.Proofs.Ytgiemldmphbolaa

namespace Go.Proofs.Ytgiemldmphbolaa
open Go.RowKit

set_option maxHeartbeats 4000000 in
theorem slope_r  (W0 : World) : Calls Try.prog 43 #[] W0 fun e w' => e = .returned (.agg (ai 22 (dg dN))) ∧ Below W0.heap.size W0 w' := by
  refine sym_enter Try.func43 Try.ntmps43 rfl [uu, uu, uu] (by kernel_rfl) (by kernel_rfl) ?_
  intro β a h
  refine sym_seq ?_
  refine St.region h [.inr (0, 0), uu, uu] [(ai 22 (fun _ => 0), 35)] [(ai 22 (fun _ => 0), 35)] [#[]] [⟨some 0, none, none, false⟩] (by kernel_rfl) (by kernel_rfl) (by kernel_rfl) (by kernel_rfl) (by kernel_rfl) (by kernel_rfl) (by kernel_rfl) (by kernel_rfl) ?_ ?_
  · refine ok_cons (ok_alloc (b := 0) al22 rfl (by kernel_rfl) rfl (by kernel_rfl) (by kernel_rfl)) ?_
    exact ok_nil
  clear h; intro β a w h
  refine sym_then ?_
  refine sym_seq ?_
  refine St.region h [.inr (0, 0), .inl (.agg (ck (kl [163, 120, 89, 19, 202, 77, 235, 117, 171, 216, 65, 65, 77, 10, 112, 0, 152, 232, 121, 119, 121, 64, 199, 140, 115, 254, 111, 43, 238, 108, 3, 82]))), .inl (.agg (ai 22 (dg dN)))] [(ai 22 (dg dN), 35)] [(ai 22 (fun _ => 0), 35)] [ai 22 (dg dN)] [nn, nn, ⟨none, some 0, none, false⟩] (by kernel_rfl) (by kernel_rfl) (by kernel_rfl) (by kernel_rfl) (by kernel_rfl) (by kernel_rfl) (by kernel_rfl) (by kernel_rfl) ?_ ?_
  · refine ok_cons (ok_build (vs := #[(0, .int .u8 ((163 : Nat) : Int)), (1, .int .u8 ((120 : Nat) : Int)), (2, .int .u8 ((89 : Nat) : Int)), (3, .int .u8 ((19 : Nat) : Int)), (4, .int .u8 ((202 : Nat) : Int)), (5, .int .u8 ((77 : Nat) : Int)), (6, .int .u8 ((235 : Nat) : Int)), (7, .int .u8 ((117 : Nat) : Int)), (8, .int .u8 ((171 : Nat) : Int)), (9, .int .u8 ((216 : Nat) : Int)), (10, .int .u8 ((65 : Nat) : Int)), (11, .int .u8 ((65 : Nat) : Int)), (12, .int .u8 ((77 : Nat) : Int)), (13, .int .u8 ((10 : Nat) : Int)), (14, .int .u8 ((112 : Nat) : Int)), (15, .int .u8 ((0 : Nat) : Int)), (16, .int .u8 ((152 : Nat) : Int)), (17, .int .u8 ((232 : Nat) : Int)), (18, .int .u8 ((121 : Nat) : Int)), (19, .int .u8 ((119 : Nat) : Int)), (20, .int .u8 ((121 : Nat) : Int)), (21, .int .u8 ((64 : Nat) : Int)), (22, .int .u8 ((199 : Nat) : Int)), (23, .int .u8 ((140 : Nat) : Int)), (24, .int .u8 ((115 : Nat) : Int)), (25, .int .u8 ((254 : Nat) : Int)), (26, .int .u8 ((111 : Nat) : Int)), (27, .int .u8 ((43 : Nat) : Int)), (28, .int .u8 ((238 : Nat) : Int)), (29, .int .u8 ((108 : Nat) : Int)), (30, .int .u8 ((3 : Nat) : Int)), (31, .int .u8 ((82 : Nat) : Int))]) (v := .agg (ck (kl [163, 120, 89, 19, 202, 77, 235, 117, 171, 216, 65, 65, 77, 10, 112, 0, 152, 232, 121, 119, 121, 64, 199, 140, 115, 254, 111, 43, 238, 108, 3, 82]))) (fun w => by kernel_rfl) rfl (by kernel_rfl) rfl (by kernel_rfl) (by kernel_rfl) (by kernel_rfl)) ?_
    refine ok_cons (ok_call (vs := #[.agg (ck (kl [163, 120, 89, 19, 202, 77, 235, 117, 171, 216, 65, 65, 77, 10, 112, 0, 152, 232, 121, 119, 121, 64, 199, 140, 115, 254, 111, 43, 238, 108, 3, 82]))]) (R := .agg (ai 22 (dg dN))) (fun w => by have := of_r (b := (kl [163, 120, 89, 19, 202, 77, 235, 117, 171, 216, 65, 65, 77, 10, 112, 0, 152, 232, 121, 119, 121, 64, 199, 140, 115, 254, 111, 43, 238, 108, 3, 82])) (kl_lt (by decide)) w; rwa [show ofb (kl [163, 120, 89, 19, 202, 77, 235, 117, 171, 216, 65, 65, 77, 10, 112, 0, 152, 232, 121, 119, 121, 64, 199, 140, 115, 254, 111, 43, 238, 108, 3, 82]) = dN by decide +kernel] at this) rfl (by kernel_rfl) rfl (by kernel_rfl) (by kernel_rfl) (by kernel_rfl) (fun w => by kernel_rfl)) ?_
    refine ok_cons (ok_store (b := 0) (off := 0) (u := .agg (ai 22 (dg dN))) (c := ai 22 (fun _ => 0)) (n := ai 22 (dg dN)) (st22 (F := (dg dN)) (c := ai 22 (fun _ => 0)) 35 (ai_size _ _)) rfl (by kernel_rfl) rfl (by kernel_rfl) (by kernel_rfl) (by kernel_rfl) (by kernel_rfl) (by kernel_rfl)) ?_
    exact ok_nil
  clear h; intro β a w h
  refine sym_then ?_
  refine wp_ret ?_
  exact sym_retc (b := 0) (t0 := 35) (c := ai 22 (dg dN)) h Try.results43 (by kernel_rfl) (by kernel_rfl) (by kernel_rfl) Try.underlying35 rfl (by rw [ai_size]; kernel_rfl) (fun hb => ⟨rfl, hb⟩)

set_option maxHeartbeats 4000000 in
theorem origin_r  (W0 : World) : Calls Try.prog 36 #[] W0 fun e w' => e = .returned (.agg (cis [0, 1, 1, 0])) ∧ Below W0.heap.size W0 w' := by
  refine sym_enter Try.func36 Try.ntmps36 rfl [uu, uu, uu, uu, uu, uu] (by kernel_rfl) (by kernel_rfl) ?_
  intro β a h
  refine sym_seq ?_
  refine St.region h [.inr (0, 0), uu, uu, uu, uu, uu] [(cis [0, 0, 0, 0], 37)] [(cis [0, 0, 0, 0], 37)] [#[]] [⟨some 0, none, none, false⟩] (by kernel_rfl) (by kernel_rfl) (by kernel_rfl) (by kernel_rfl) (by kernel_rfl) (by kernel_rfl) (by kernel_rfl) (by kernel_rfl) ?_ ?_
  · refine ok_cons (ok_alloc (b := 0) alR rfl (by kernel_rfl) rfl (by kernel_rfl) (by kernel_rfl)) ?_
    exact ok_nil
  clear h; intro β a w h
  refine sym_then ?_
  refine sym_seq ?_
  refine St.region h [.inr (0, 0), .inr (1, 0), .inl (.agg (ai 22 (dg 1))), uu, uu, uu] [(cis [0, 0, 0, 0], 37), (ai 22 (dg 1), 35)] [(cis [0, 0, 0, 0], 37), (ai 22 (fun _ => 0), 35)] [#[], ai 22 (dg 1)] [nn, ⟨some 1, none, none, false⟩, ⟨none, some 1, none, false⟩] (by kernel_rfl) (by kernel_rfl) (by kernel_rfl) (by kernel_rfl) (by kernel_rfl) (by kernel_rfl) (by kernel_rfl) (by kernel_rfl) ?_ ?_
  · refine ok_cons (ok_call (vs := #[.int .i64 ((1 : Nat) : Int)]) (R := .agg (ai 22 (dg 1))) (fun w => int_r (N := 1) (by decide) w) rfl (by kernel_rfl) rfl (by kernel_rfl) (by kernel_rfl) (by kernel_rfl) (fun w => by kernel_rfl)) ?_
    refine ok_cons (ok_alloc (b := 1) al22 rfl (by kernel_rfl) rfl (by kernel_rfl) (by kernel_rfl)) ?_
    refine ok_cons (ok_store (b := 1) (off := 0) (u := .agg (ai 22 (dg 1))) (c := ai 22 (fun _ => 0)) (n := ai 22 (dg 1)) (st22 (F := (dg 1)) (c := ai 22 (fun _ => 0)) 35 (ai_size _ _)) rfl (by kernel_rfl) rfl (by kernel_rfl) (by kernel_rfl) (by kernel_rfl) (by kernel_rfl) (by kernel_rfl)) ?_
    exact ok_nil
  clear h; intro β a w h
  refine sym_then ?_
  refine sym_seq ?_
  refine St.region h [.inr (0, 0), .inr (1, 0), .inl (.agg (ai 22 (dg 1))), .inl (.agg (ai 22 (dg 1))), .inl (.agg (ai 22 (dg 1))), .inl (.agg (cis [0, 1, 1, 0]))] [(cis [0, 1, 1, 0], 37), (ai 22 (dg 1), 35)] [(cis [0, 0, 0, 0], 37), (ai 22 (dg 1), 35)] [cis [0, 1, 1, 0], #[]] [⟨none, none, some 1, false⟩, ⟨none, none, some 1, false⟩, nn, ⟨none, some 0, none, false⟩] (by kernel_rfl) (by kernel_rfl) (by kernel_rfl) (by kernel_rfl) (by kernel_rfl) (by kernel_rfl) (by kernel_rfl) (by kernel_rfl) ?_ ?_
  · refine ok_cons (ok_load (b := 1) (off := 0) (c := ai 22 (dg 1)) (v := .agg (ai 22 (dg 1))) (ld22 (F := (dg 1)) 35) rfl (by kernel_rfl) rfl (by kernel_rfl) (by kernel_rfl) (by kernel_rfl)) ?_
    refine ok_cons (ok_load (b := 1) (off := 0) (c := ai 22 (dg 1)) (v := .agg (ai 22 (dg 1))) (ld22 (F := (dg 1)) 35) rfl (by kernel_rfl) rfl (by kernel_rfl) (by kernel_rfl) (by kernel_rfl)) ?_
    refine ok_cons (ok_build (vs := #[(1, .agg (ai 22 (dg 1))), (2, .agg (ai 22 (dg 1)))]) (v := .agg (cis [0, 1, 1, 0])) (bdR2 (b := 1) (c := 1)) rfl (by kernel_rfl) rfl (by kernel_rfl) (by kernel_rfl) (by kernel_rfl)) ?_
    refine ok_cons (ok_store (b := 0) (off := 0) (u := .agg (cis [0, 1, 1, 0])) (c := cis [0, 0, 0, 0]) (n := cis [0, 1, 1, 0]) (stR (a := 0) (b := 1) (c := 1) (d := 0) (e := cis [0, 0, 0, 0]) 37 (by rw [cis_size]; rfl)) rfl (by kernel_rfl) rfl (by kernel_rfl) (by kernel_rfl) (by kernel_rfl) (by kernel_rfl) (by kernel_rfl)) ?_
    exact ok_nil
  clear h; intro β a w h
  refine sym_then ?_
  refine wp_ret ?_
  exact sym_retc (b := 0) (t0 := 37) (c := cis [0, 1, 1, 0]) h Try.results36 (by kernel_rfl) (by kernel_rfl) (by kernel_rfl) Try.underlying37 rfl (by rw [cis_size]; kernel_rfl) (fun hb => ⟨rfl, hb⟩)

set_option maxHeartbeats 4000000 in
theorem plus_rp {x1 y1 z1 t1 x2 y2 z2 t2 : Nat} (hx1 : x1 < pp) (hy1 : y1 < pp) (hz1 : z1 < pp) (ht1 : t1 < pp) (hx2 : x2 < pp) (hy2 : y2 < pp) (hz2 : z2 < pp) (ht2 : t2 < pp) (W0 : World) : Calls Try.prog 15 #[.agg (cis [x1, y1, z1, t1]), .agg (cis [x2, y2, z2, t2])] W0 fun e w' => e = .returned (.agg (cis [mu (ad (mu x1 y2) (mu y1 x2)) (sb (mu z1 z2) (mu dN (mu t1 t2))), mu (ad (mu z1 z2) (mu dN (mu t1 t2))) (ad (mu y1 y2) (mu x1 x2)), mu (sb (mu z1 z2) (mu dN (mu t1 t2))) (ad (mu z1 z2) (mu dN (mu t1 t2))), mu (ad (mu x1 y2) (mu y1 x2)) (ad (mu y1 y2) (mu x1 x2))])) ∧ Below W0.heap.size W0 w' := by
  refine sym_enter Try.func15 Try.ntmps15 rfl [.inl (.agg (cis [x1, y1, z1, t1])), .inl (.agg (cis [x2, y2, z2, t2])), uu, uu, uu, uu, uu, uu, uu, uu, uu, uu, uu, uu, uu, uu, uu, uu, uu, uu, uu, uu, uu, uu, uu, uu, uu, uu, uu, uu, uu, uu, uu, uu, uu, uu, uu, uu, uu, uu, uu, uu, uu, uu, uu, uu, uu, uu, uu, uu, uu, uu, uu, uu, uu, uu, uu, uu, uu, uu, uu, uu, uu, uu, uu, uu, uu, uu] (by kernel_rfl) (by kernel_rfl) ?_
  intro β a h
  refine sym_seq ?_
  refine St.region h [.inl (.agg (cis [x1, y1, z1, t1])), .inl (.agg (cis [x2, y2, z2, t2])), .inr (0, 0), .inr (1, 0), .inr (2, 0), uu, uu, uu, uu, uu, uu, uu, uu, uu, uu, uu, uu, uu, uu, uu, uu, uu, uu, uu, uu, uu, uu, uu, uu, uu, uu, uu, uu, uu, uu, uu, uu, uu, uu, uu, uu, uu, uu, uu, uu, uu, uu, uu, uu, uu, uu, uu, uu, uu, uu, uu, uu, uu, uu, uu, uu, uu, uu, uu, uu, uu, uu, uu] [(cis [x1, y1, z1, t1], 37), (cis [x2, y2, z2, t2], 37), (cis [0, 0, 0, 0], 37)] [(cis [x1, y1, z1, t1], 37), (cis [x2, y2, z2, t2], 37), (cis [0, 0, 0, 0], 37)] [#[], #[], #[]] [⟨some 0, none, none, false⟩, ⟨some 1, none, none, false⟩, ⟨some 2, none, none, false⟩] (by kernel_rfl) (by kernel_rfl) (by kernel_rfl) (by kernel_rfl) (by kernel_rfl) (by kernel_rfl) (by kernel_rfl) (by kernel_rfl) ?_ ?_
  · refine ok_cons (ok_box (b := 0) (u := .agg (cis [x1, y1, z1, t1])) (bxR (a := x1) (b := y1) (c := z1) (d := t1)) rfl (by kernel_rfl) rfl (by kernel_rfl) (by kernel_rfl) (by kernel_rfl) (by kernel_rfl)) ?_
    refine ok_cons (ok_box (b := 1) (u := .agg (cis [x2, y2, z2, t2])) (bxR (a := x2) (b := y2) (c := z2) (d := t2)) rfl (by kernel_rfl) rfl (by kernel_rfl) (by kernel_rfl) (by kernel_rfl) (by kernel_rfl)) ?_
    refine ok_cons (ok_alloc (b := 2) alR rfl (by kernel_rfl) rfl (by kernel_rfl) (by kernel_rfl)) ?_
    exact ok_nil
  clear h; intro β a w h
  refine sym_then ?_
  refine sym_seq ?_
  refine St.region h [.inl (.agg (cis [x1, y1, z1, t1])), .inl (.agg (cis [x2, y2, z2, t2])), .inr (0, 0), .inr (1, 0), .inr (2, 0), .inr (3, 0), uu, uu, uu, uu, uu, uu, uu, .inr (0, 0), .inl (.agg (ai 22 (dg x1))), .inr (1, 0), .inl (.agg (ai 22 (dg x2))), .inl (.agg (ai 22 (dg (mu x1 x2)))), uu, uu, uu, uu, uu, uu, uu, uu, uu, uu, uu, uu, uu, uu, uu, uu, uu, uu, uu, uu, uu, uu, uu, uu, uu, uu, uu, uu, uu, uu, uu, uu, uu, uu, uu, uu, uu, uu, uu, uu, uu, uu, uu, uu, uu, uu, uu, uu, uu, uu] [(cis [x1, y1, z1, t1], 37), (cis [x2, y2, z2, t2], 37), (cis [0, 0, 0, 0], 37), (ai 22 (dg (mu x1 x2)), 35)] [(cis [x1, y1, z1, t1], 37), (cis [x2, y2, z2, t2], 37), (cis [0, 0, 0, 0], 37), (ai 22 (fun _ => 0), 35)] [#[], #[], #[], ai 22 (dg (mu x1 x2))] [nn, ⟨none, none, some 0, false⟩, nn, ⟨none, none, some 1, false⟩, nn, ⟨some 3, none, none, false⟩, ⟨none, some 3, none, false⟩] (by kernel_rfl) (by kernel_rfl) (by kernel_rfl) (by kernel_rfl) (by kernel_rfl) (by kernel_rfl) (by kernel_rfl) (by kernel_rfl) ?_ ?_
  · refine ok_cons (ok_faddr (b := 0) (off := 0) (off' := 0) (fun w q => by kernel_rfl) rfl (by kernel_rfl) rfl (by kernel_rfl) (by kernel_rfl)) ?_
    refine ok_cons (ok_load (b := 0) (off := 0) (c := cis [x1, y1, z1, t1]) (v := .agg (ai 22 (dg x1))) (ld_cis (l := [x1, y1, z1, t1]) (k := 0) (n := x1) 37 rfl) rfl (by kernel_rfl) rfl (by kernel_rfl) (by kernel_rfl) (by kernel_rfl)) ?_
    refine ok_cons (ok_faddr (b := 1) (off := 0) (off' := 0) (fun w q => by kernel_rfl) rfl (by kernel_rfl) rfl (by kernel_rfl) (by kernel_rfl)) ?_
    refine ok_cons (ok_load (b := 1) (off := 0) (c := cis [x2, y2, z2, t2]) (v := .agg (ai 22 (dg x2))) (ld_cis (l := [x2, y2, z2, t2]) (k := 0) (n := x2) 37 rfl) rfl (by kernel_rfl) rfl (by kernel_rfl) (by kernel_rfl) (by kernel_rfl)) ?_
    refine ok_cons (ok_call (vs := #[.agg (ai 22 (dg x1)), .agg (ai 22 (dg x2))]) (R := .agg (ai 22 (dg (mu x1 x2)))) (fun w => times_rm hx1 hx2 w) rfl (by kernel_rfl) rfl (by kernel_rfl) (by kernel_rfl) (by kernel_rfl) (fun w => by kernel_rfl)) ?_
    refine ok_cons (ok_alloc (b := 3) al22 rfl (by kernel_rfl) rfl (by kernel_rfl) (by kernel_rfl)) ?_
    refine ok_cons (ok_store (b := 3) (off := 0) (u := .agg (ai 22 (dg (mu x1 x2)))) (c := ai 22 (fun _ => 0)) (n := ai 22 (dg (mu x1 x2))) (st22 (F := (dg (mu x1 x2))) (c := ai 22 (fun _ => 0)) 35 (ai_size _ _)) rfl (by kernel_rfl) rfl (by kernel_rfl) (by kernel_rfl) (by kernel_rfl) (by kernel_rfl) (by kernel_rfl)) ?_
    exact ok_nil
  clear h; intro β a w h
  refine sym_then ?_
  refine sym_seq ?_
  refine St.region h [.inl (.agg (cis [x1, y1, z1, t1])), .inl (.agg (cis [x2, y2, z2, t2])), .inr (0, 0), .inr (1, 0), .inr (2, 0), .inr (3, 0), .inr (4, 0), uu, uu, uu, uu, uu, uu, .inr (0, 0), .inl (.agg (ai 22 (dg x1))), .inr (1, 0), .inl (.agg (ai 22 (dg x2))), .inl (.agg (ai 22 (dg (mu x1 x2)))), .inr (0, 22), .inl (.agg (ai 22 (dg y1))), .inr (1, 22), .inl (.agg (ai 22 (dg y2))), .inl (.agg (ai 22 (dg (mu y1 y2)))), uu, uu, uu, uu, uu, uu, uu, uu, uu, uu, uu, uu, uu, uu, uu, uu, uu, uu, uu, uu, uu, uu, uu, uu, uu, uu, uu, uu, uu, uu, uu, uu, uu, uu, uu, uu, uu, uu, uu, uu, uu, uu, uu, uu, uu] [(cis [x1, y1, z1, t1], 37), (cis [x2, y2, z2, t2], 37), (cis [0, 0, 0, 0], 37), (ai 22 (dg (mu x1 x2)), 35), (ai 22 (dg (mu y1 y2)), 35)] [(cis [x1, y1, z1, t1], 37), (cis [x2, y2, z2, t2], 37), (cis [0, 0, 0, 0], 37), (ai 22 (dg (mu x1 x2)), 35), (ai 22 (fun _ => 0), 35)] [#[], #[], #[], #[], ai 22 (dg (mu y1 y2))] [nn, ⟨none, none, some 0, false⟩, nn, ⟨none, none, some 1, false⟩, nn, ⟨some 4, none, none, false⟩, ⟨none, some 4, none, false⟩] (by kernel_rfl) (by kernel_rfl) (by kernel_rfl) (by kernel_rfl) (by kernel_rfl) (by kernel_rfl) (by kernel_rfl) (by kernel_rfl) ?_ ?_
  · refine ok_cons (ok_faddr (b := 0) (off := 0) (off' := 22) (fun w q => by kernel_rfl) rfl (by kernel_rfl) rfl (by kernel_rfl) (by kernel_rfl)) ?_
    refine ok_cons (ok_load (b := 0) (off := 22) (c := cis [x1, y1, z1, t1]) (v := .agg (ai 22 (dg y1))) (ld_cis (l := [x1, y1, z1, t1]) (k := 1) (n := y1) 37 rfl) rfl (by kernel_rfl) rfl (by kernel_rfl) (by kernel_rfl) (by kernel_rfl)) ?_
    refine ok_cons (ok_faddr (b := 1) (off := 0) (off' := 22) (fun w q => by kernel_rfl) rfl (by kernel_rfl) rfl (by kernel_rfl) (by kernel_rfl)) ?_
    refine ok_cons (ok_load (b := 1) (off := 22) (c := cis [x2, y2, z2, t2]) (v := .agg (ai 22 (dg y2))) (ld_cis (l := [x2, y2, z2, t2]) (k := 1) (n := y2) 37 rfl) rfl (by kernel_rfl) rfl (by kernel_rfl) (by kernel_rfl) (by kernel_rfl)) ?_
    refine ok_cons (ok_call (vs := #[.agg (ai 22 (dg y1)), .agg (ai 22 (dg y2))]) (R := .agg (ai 22 (dg (mu y1 y2)))) (fun w => times_rm hy1 hy2 w) rfl (by kernel_rfl) rfl (by kernel_rfl) (by kernel_rfl) (by kernel_rfl) (fun w => by kernel_rfl)) ?_
    refine ok_cons (ok_alloc (b := 4) al22 rfl (by kernel_rfl) rfl (by kernel_rfl) (by kernel_rfl)) ?_
    refine ok_cons (ok_store (b := 4) (off := 0) (u := .agg (ai 22 (dg (mu y1 y2)))) (c := ai 22 (fun _ => 0)) (n := ai 22 (dg (mu y1 y2))) (st22 (F := (dg (mu y1 y2))) (c := ai 22 (fun _ => 0)) 35 (ai_size _ _)) rfl (by kernel_rfl) rfl (by kernel_rfl) (by kernel_rfl) (by kernel_rfl) (by kernel_rfl) (by kernel_rfl)) ?_
    exact ok_nil
  clear h; intro β a w h
  refine sym_then ?_
  refine sym_seq ?_
  refine St.region h [.inl (.agg (cis [x1, y1, z1, t1])), .inl (.agg (cis [x2, y2, z2, t2])), .inr (0, 0), .inr (1, 0), .inr (2, 0), .inr (3, 0), .inr (4, 0), .inr (5, 0), uu, uu, uu, uu, uu, .inr (0, 0), .inl (.agg (ai 22 (dg x1))), .inr (1, 0), .inl (.agg (ai 22 (dg x2))), .inl (.agg (ai 22 (dg (mu x1 x2)))), .inr (0, 22), .inl (.agg (ai 22 (dg y1))), .inr (1, 22), .inl (.agg (ai 22 (dg y2))), .inl (.agg (ai 22 (dg (mu y1 y2)))), .inl (.agg (ai 22 (dg dN))), .inr (0, 66), .inl (.agg (ai 22 (dg t1))), .inr (1, 66), .inl (.agg (ai 22 (dg t2))), .inl (.agg (ai 22 (dg (mu t1 t2)))), .inl (.agg (ai 22 (dg (mu dN (mu t1 t2))))), uu, uu, uu, uu, uu, uu, uu, uu, uu, uu, uu, uu, uu, uu, uu, uu, uu, uu, uu, uu, uu, uu, uu, uu, uu, uu, uu, uu, uu, uu, uu, uu, uu, uu, uu, uu, uu, uu] [(cis [x1, y1, z1, t1], 37), (cis [x2, y2, z2, t2], 37), (cis [0, 0, 0, 0], 37), (ai 22 (dg (mu x1 x2)), 35), (ai 22 (dg (mu y1 y2)), 35), (ai 22 (dg (mu dN (mu t1 t2))), 35)] [(cis [x1, y1, z1, t1], 37), (cis [x2, y2, z2, t2], 37), (cis [0, 0, 0, 0], 37), (ai 22 (dg (mu x1 x2)), 35), (ai 22 (dg (mu y1 y2)), 35), (ai 22 (fun _ => 0), 35)] [#[], #[], #[], #[], #[], ai 22 (dg (mu dN (mu t1 t2)))] [nn, nn, ⟨none, none, some 0, false⟩, nn, ⟨none, none, some 1, false⟩, nn, nn, ⟨some 5, none, none, false⟩, ⟨none, some 5, none, false⟩] (by kernel_rfl) (by kernel_rfl) (by kernel_rfl) (by kernel_rfl) (by kernel_rfl) (by kernel_rfl) (by kernel_rfl) (by kernel_rfl) ?_ ?_
  · refine ok_cons (ok_call (vs := #[]) (R := .agg (ai 22 (dg dN))) slope_r rfl (by kernel_rfl) rfl (by kernel_rfl) (by kernel_rfl) (by kernel_rfl) (fun w => by kernel_rfl)) ?_
    refine ok_cons (ok_faddr (b := 0) (off := 0) (off' := 66) (fun w q => by kernel_rfl) rfl (by kernel_rfl) rfl (by kernel_rfl) (by kernel_rfl)) ?_
    refine ok_cons (ok_load (b := 0) (off := 66) (c := cis [x1, y1, z1, t1]) (v := .agg (ai 22 (dg t1))) (ld_cis (l := [x1, y1, z1, t1]) (k := 3) (n := t1) 37 rfl) rfl (by kernel_rfl) rfl (by kernel_rfl) (by kernel_rfl) (by kernel_rfl)) ?_
    refine ok_cons (ok_faddr (b := 1) (off := 0) (off' := 66) (fun w q => by kernel_rfl) rfl (by kernel_rfl) rfl (by kernel_rfl) (by kernel_rfl)) ?_
    refine ok_cons (ok_load (b := 1) (off := 66) (c := cis [x2, y2, z2, t2]) (v := .agg (ai 22 (dg t2))) (ld_cis (l := [x2, y2, z2, t2]) (k := 3) (n := t2) 37 rfl) rfl (by kernel_rfl) rfl (by kernel_rfl) (by kernel_rfl) (by kernel_rfl)) ?_
    refine ok_cons (ok_call (vs := #[.agg (ai 22 (dg t1)), .agg (ai 22 (dg t2))]) (R := .agg (ai 22 (dg (mu t1 t2)))) (fun w => times_rm ht1 ht2 w) rfl (by kernel_rfl) rfl (by kernel_rfl) (by kernel_rfl) (by kernel_rfl) (fun w => by kernel_rfl)) ?_
    refine ok_cons (ok_call (vs := #[.agg (ai 22 (dg dN)), .agg (ai 22 (dg (mu t1 t2)))]) (R := .agg (ai 22 (dg (mu dN (mu t1 t2))))) (fun w => times_rm dN_lt (mu_lt _ _) w) rfl (by kernel_rfl) rfl (by kernel_rfl) (by kernel_rfl) (by kernel_rfl) (fun w => by kernel_rfl)) ?_
    refine ok_cons (ok_alloc (b := 5) al22 rfl (by kernel_rfl) rfl (by kernel_rfl) (by kernel_rfl)) ?_
    refine ok_cons (ok_store (b := 5) (off := 0) (u := .agg (ai 22 (dg (mu dN (mu t1 t2))))) (c := ai 22 (fun _ => 0)) (n := ai 22 (dg (mu dN (mu t1 t2)))) (st22 (F := (dg (mu dN (mu t1 t2)))) (c := ai 22 (fun _ => 0)) 35 (ai_size _ _)) rfl (by kernel_rfl) rfl (by kernel_rfl) (by kernel_rfl) (by kernel_rfl) (by kernel_rfl) (by kernel_rfl)) ?_
    exact ok_nil
  clear h; intro β a w h
  refine sym_then ?_
  refine sym_seq ?_
  refine St.region h [.inl (.agg (cis [x1, y1, z1, t1])), .inl (.agg (cis [x2, y2, z2, t2])), .inr (0, 0), .inr (1, 0), .inr (2, 0), .inr (3, 0), .inr (4, 0), .inr (5, 0), .inr (6, 0), uu, uu, uu, uu, .inr (0, 0), .inl (.agg (ai 22 (dg x1))), .inr (1, 0), .inl (.agg (ai 22 (dg x2))), .inl (.agg (ai 22 (dg (mu x1 x2)))), .inr (0, 22), .inl (.agg (ai 22 (dg y1))), .inr (1, 22), .inl (.agg (ai 22 (dg y2))), .inl (.agg (ai 22 (dg (mu y1 y2)))), .inl (.agg (ai 22 (dg dN))), .inr (0, 66), .inl (.agg (ai 22 (dg t1))), .inr (1, 66), .inl (.agg (ai 22 (dg t2))), .inl (.agg (ai 22 (dg (mu t1 t2)))), .inl (.agg (ai 22 (dg (mu dN (mu t1 t2))))), .inr (0, 44), .inl (.agg (ai 22 (dg z1))), .inr (1, 44), .inl (.agg (ai 22 (dg z2))), .inl (.agg (ai 22 (dg (mu z1 z2)))), uu, uu, uu, uu, uu, uu, uu, uu, uu, uu, uu, uu, uu, uu, uu, uu, uu, uu, uu, uu, uu, uu, uu, uu, uu, uu, uu, uu, uu, uu, uu, uu, uu] [(cis [x1, y1, z1, t1], 37), (cis [x2, y2, z2, t2], 37), (cis [0, 0, 0, 0], 37), (ai 22 (dg (mu x1 x2)), 35), (ai 22 (dg (mu y1 y2)), 35), (ai 22 (dg (mu dN (mu t1 t2))), 35), (ai 22 (dg (mu z1 z2)), 35)] [(cis [x1, y1, z1, t1], 37), (cis [x2, y2, z2, t2], 37), (cis [0, 0, 0, 0], 37), (ai 22 (dg (mu x1 x2)), 35), (ai 22 (dg (mu y1 y2)), 35), (ai 22 (dg (mu dN (mu t1 t2))), 35), (ai 22 (fun _ => 0), 35)] [#[], #[], #[], #[], #[], #[], ai 22 (dg (mu z1 z2))] [nn, ⟨none, none, some 0, false⟩, nn, ⟨none, none, some 1, false⟩, nn, ⟨some 6, none, none, false⟩, ⟨none, some 6, none, false⟩] (by kernel_rfl) (by kernel_rfl) (by kernel_rfl) (by kernel_rfl) (by kernel_rfl) (by kernel_rfl) (by kernel_rfl) (by kernel_rfl) ?_ ?_
  · refine ok_cons (ok_faddr (b := 0) (off := 0) (off' := 44) (fun w q => by kernel_rfl) rfl (by kernel_rfl) rfl (by kernel_rfl) (by kernel_rfl)) ?_
    refine ok_cons (ok_load (b := 0) (off := 44) (c := cis [x1, y1, z1, t1]) (v := .agg (ai 22 (dg z1))) (ld_cis (l := [x1, y1, z1, t1]) (k := 2) (n := z1) 37 rfl) rfl (by kernel_rfl) rfl (by kernel_rfl) (by kernel_rfl) (by kernel_rfl)) ?_
    refine ok_cons (ok_faddr (b := 1) (off := 0) (off' := 44) (fun w q => by kernel_rfl) rfl (by kernel_rfl) rfl (by kernel_rfl) (by kernel_rfl)) ?_
    refine ok_cons (ok_load (b := 1) (off := 44) (c := cis [x2, y2, z2, t2]) (v := .agg (ai 22 (dg z2))) (ld_cis (l := [x2, y2, z2, t2]) (k := 2) (n := z2) 37 rfl) rfl (by kernel_rfl) rfl (by kernel_rfl) (by kernel_rfl) (by kernel_rfl)) ?_
    refine ok_cons (ok_call (vs := #[.agg (ai 22 (dg z1)), .agg (ai 22 (dg z2))]) (R := .agg (ai 22 (dg (mu z1 z2)))) (fun w => times_rm hz1 hz2 w) rfl (by kernel_rfl) rfl (by kernel_rfl) (by kernel_rfl) (by kernel_rfl) (fun w => by kernel_rfl)) ?_
    refine ok_cons (ok_alloc (b := 6) al22 rfl (by kernel_rfl) rfl (by kernel_rfl) (by kernel_rfl)) ?_
    refine ok_cons (ok_store (b := 6) (off := 0) (u := .agg (ai 22 (dg (mu z1 z2)))) (c := ai 22 (fun _ => 0)) (n := ai 22 (dg (mu z1 z2))) (st22 (F := (dg (mu z1 z2))) (c := ai 22 (fun _ => 0)) 35 (ai_size _ _)) rfl (by kernel_rfl) rfl (by kernel_rfl) (by kernel_rfl) (by kernel_rfl) (by kernel_rfl) (by kernel_rfl)) ?_
    exact ok_nil
  clear h; intro β a w h
  refine sym_then ?_
  refine sym_seq ?_
  refine St.region h [.inl (.agg (cis [x1, y1, z1, t1])), .inl (.agg (cis [x2, y2, z2, t2])), .inr (0, 0), .inr (1, 0), .inr (2, 0), .inr (3, 0), .inr (4, 0), .inr (5, 0), .inr (6, 0), .inr (7, 0), uu, uu, uu, .inr (0, 0), .inl (.agg (ai 22 (dg x1))), .inr (1, 0), .inl (.agg (ai 22 (dg x2))), .inl (.agg (ai 22 (dg (mu x1 x2)))), .inr (0, 22), .inl (.agg (ai 22 (dg y1))), .inr (1, 22), .inl (.agg (ai 22 (dg y2))), .inl (.agg (ai 22 (dg (mu y1 y2)))), .inl (.agg (ai 22 (dg dN))), .inr (0, 66), .inl (.agg (ai 22 (dg t1))), .inr (1, 66), .inl (.agg (ai 22 (dg t2))), .inl (.agg (ai 22 (dg (mu t1 t2)))), .inl (.agg (ai 22 (dg (mu dN (mu t1 t2))))), .inr (0, 44), .inl (.agg (ai 22 (dg z1))), .inr (1, 44), .inl (.agg (ai 22 (dg z2))), .inl (.agg (ai 22 (dg (mu z1 z2)))), .inr (0, 0), .inl (.agg (ai 22 (dg x1))), .inr (1, 22), .inl (.agg (ai 22 (dg y2))), .inl (.agg (ai 22 (dg (mu x1 y2)))), .inr (0, 22), .inl (.agg (ai 22 (dg y1))), .inr (1, 0), .inl (.agg (ai 22 (dg x2))), .inl (.agg (ai 22 (dg (mu y1 x2)))), .inl (.agg (ai 22 (dg (ad (mu x1 y2) (mu y1 x2))))), uu, uu, uu, uu, uu, uu, uu, uu, uu, uu, uu, uu, uu, uu, uu, uu, uu, uu, uu, uu, uu, uu] [(cis [x1, y1, z1, t1], 37), (cis [x2, y2, z2, t2], 37), (cis [0, 0, 0, 0], 37), (ai 22 (dg (mu x1 x2)), 35), (ai 22 (dg (mu y1 y2)), 35), (ai 22 (dg (mu dN (mu t1 t2))), 35), (ai 22 (dg (mu z1 z2)), 35), (ai 22 (dg (ad (mu x1 y2) (mu y1 x2))), 35)] [(cis [x1, y1, z1, t1], 37), (cis [x2, y2, z2, t2], 37), (cis [0, 0, 0, 0], 37), (ai 22 (dg (mu x1 x2)), 35), (ai 22 (dg (mu y1 y2)), 35), (ai 22 (dg (mu dN (mu t1 t2))), 35), (ai 22 (dg (mu z1 z2)), 35), (ai 22 (fun _ => 0), 35)] [#[], #[], #[], #[], #[], #[], #[], ai 22 (dg (ad (mu x1 y2) (mu y1 x2)))] [nn, ⟨none, none, some 0, false⟩, nn, ⟨none, none, some 1, false⟩, nn, nn, ⟨none, none, some 0, false⟩, nn, ⟨none, none, some 1, false⟩, nn, nn, ⟨some 7, none, none, false⟩, ⟨none, some 7, none, false⟩] (by kernel_rfl) (by kernel_rfl) (by kernel_rfl) (by kernel_rfl) (by kernel_rfl) (by kernel_rfl) (by kernel_rfl) (by kernel_rfl) ?_ ?_
  · refine ok_cons (ok_faddr (b := 0) (off := 0) (off' := 0) (fun w q => by kernel_rfl) rfl (by kernel_rfl) rfl (by kernel_rfl) (by kernel_rfl)) ?_
    refine ok_cons (ok_load (b := 0) (off := 0) (c := cis [x1, y1, z1, t1]) (v := .agg (ai 22 (dg x1))) (ld_cis (l := [x1, y1, z1, t1]) (k := 0) (n := x1) 37 rfl) rfl (by kernel_rfl) rfl (by kernel_rfl) (by kernel_rfl) (by kernel_rfl)) ?_
    refine ok_cons (ok_faddr (b := 1) (off := 0) (off' := 22) (fun w q => by kernel_rfl) rfl (by kernel_rfl) rfl (by kernel_rfl) (by kernel_rfl)) ?_
    refine ok_cons (ok_load (b := 1) (off := 22) (c := cis [x2, y2, z2, t2]) (v := .agg (ai 22 (dg y2))) (ld_cis (l := [x2, y2, z2, t2]) (k := 1) (n := y2) 37 rfl) rfl (by kernel_rfl) rfl (by kernel_rfl) (by kernel_rfl) (by kernel_rfl)) ?_
    refine ok_cons (ok_call (vs := #[.agg (ai 22 (dg x1)), .agg (ai 22 (dg y2))]) (R := .agg (ai 22 (dg (mu x1 y2)))) (fun w => times_rm hx1 hy2 w) rfl (by kernel_rfl) rfl (by kernel_rfl) (by kernel_rfl) (by kernel_rfl) (fun w => by kernel_rfl)) ?_
    refine ok_cons (ok_faddr (b := 0) (off := 0) (off' := 22) (fun w q => by kernel_rfl) rfl (by kernel_rfl) rfl (by kernel_rfl) (by kernel_rfl)) ?_
    refine ok_cons (ok_load (b := 0) (off := 22) (c := cis [x1, y1, z1, t1]) (v := .agg (ai 22 (dg y1))) (ld_cis (l := [x1, y1, z1, t1]) (k := 1) (n := y1) 37 rfl) rfl (by kernel_rfl) rfl (by kernel_rfl) (by kernel_rfl) (by kernel_rfl)) ?_
    refine ok_cons (ok_faddr (b := 1) (off := 0) (off' := 0) (fun w q => by kernel_rfl) rfl (by kernel_rfl) rfl (by kernel_rfl) (by kernel_rfl)) ?_
    refine ok_cons (ok_load (b := 1) (off := 0) (c := cis [x2, y2, z2, t2]) (v := .agg (ai 22 (dg x2))) (ld_cis (l := [x2, y2, z2, t2]) (k := 0) (n := x2) 37 rfl) rfl (by kernel_rfl) rfl (by kernel_rfl) (by kernel_rfl) (by kernel_rfl)) ?_
    refine ok_cons (ok_call (vs := #[.agg (ai 22 (dg y1)), .agg (ai 22 (dg x2))]) (R := .agg (ai 22 (dg (mu y1 x2)))) (fun w => times_rm hy1 hx2 w) rfl (by kernel_rfl) rfl (by kernel_rfl) (by kernel_rfl) (by kernel_rfl) (fun w => by kernel_rfl)) ?_
    refine ok_cons (ok_call (vs := #[.agg (ai 22 (dg (mu x1 y2))), .agg (ai 22 (dg (mu y1 x2)))]) (R := .agg (ai 22 (dg (ad (mu x1 y2) (mu y1 x2))))) (fun w => plus_rm (mu_lt _ _) (mu_lt _ _) w) rfl (by kernel_rfl) rfl (by kernel_rfl) (by kernel_rfl) (by kernel_rfl) (fun w => by kernel_rfl)) ?_
    refine ok_cons (ok_alloc (b := 7) al22 rfl (by kernel_rfl) rfl (by kernel_rfl) (by kernel_rfl)) ?_
    refine ok_cons (ok_store (b := 7) (off := 0) (u := .agg (ai 22 (dg (ad (mu x1 y2) (mu y1 x2))))) (c := ai 22 (fun _ => 0)) (n := ai 22 (dg (ad (mu x1 y2) (mu y1 x2)))) (st22 (F := (dg (ad (mu x1 y2) (mu y1 x2)))) (c := ai 22 (fun _ => 0)) 35 (ai_size _ _)) rfl (by kernel_rfl) rfl (by kernel_rfl) (by kernel_rfl) (by kernel_rfl) (by kernel_rfl) (by kernel_rfl)) ?_
    exact ok_nil
  clear h; intro β a w h
  refine sym_then ?_
  refine sym_seq ?_
  refine St.region h [.inl (.agg (cis [x1, y1, z1, t1])), .inl (.agg (cis [x2, y2, z2, t2])), .inr (0, 0), .inr (1, 0), .inr (2, 0), .inr (3, 0), .inr (4, 0), .inr (5, 0), .inr (6, 0), .inr (7, 0), .inr (8, 0), uu, uu, .inr (0, 0), .inl (.agg (ai 22 (dg x1))), .inr (1, 0), .inl (.agg (ai 22 (dg x2))), .inl (.agg (ai 22 (dg (mu x1 x2)))), .inr (0, 22), .inl (.agg (ai 22 (dg y1))), .inr (1, 22), .inl (.agg (ai 22 (dg y2))), .inl (.agg (ai 22 (dg (mu y1 y2)))), .inl (.agg (ai 22 (dg dN))), .inr (0, 66), .inl (.agg (ai 22 (dg t1))), .inr (1, 66), .inl (.agg (ai 22 (dg t2))), .inl (.agg (ai 22 (dg (mu t1 t2)))), .inl (.agg (ai 22 (dg (mu dN (mu t1 t2))))), .inr (0, 44), .inl (.agg (ai 22 (dg z1))), .inr (1, 44), .inl (.agg (ai 22 (dg z2))), .inl (.agg (ai 22 (dg (mu z1 z2)))), .inr (0, 0), .inl (.agg (ai 22 (dg x1))), .inr (1, 22), .inl (.agg (ai 22 (dg y2))), .inl (.agg (ai 22 (dg (mu x1 y2)))), .inr (0, 22), .inl (.agg (ai 22 (dg y1))), .inr (1, 0), .inl (.agg (ai 22 (dg x2))), .inl (.agg (ai 22 (dg (mu y1 x2)))), .inl (.agg (ai 22 (dg (ad (mu x1 y2) (mu y1 x2))))), .inl (.agg (ai 22 (dg (mu z1 z2)))), .inl (.agg (ai 22 (dg (mu dN (mu t1 t2))))), .inl (.agg (ai 22 (dg (sb (mu z1 z2) (mu dN (mu t1 t2)))))), uu, uu, uu, uu, uu, uu, uu, uu, uu, uu, uu, uu, uu, uu, uu, uu, uu, uu, uu] [(cis [x1, y1, z1, t1], 37), (cis [x2, y2, z2, t2], 37), (cis [0, 0, 0, 0], 37), (ai 22 (dg (mu x1 x2)), 35), (ai 22 (dg (mu y1 y2)), 35), (ai 22 (dg (mu dN (mu t1 t2))), 35), (ai 22 (dg (mu z1 z2)), 35), (ai 22 (dg (ad (mu x1 y2) (mu y1 x2))), 35), (ai 22 (dg (sb (mu z1 z2) (mu dN (mu t1 t2)))), 35)] [(cis [x1, y1, z1, t1], 37), (cis [x2, y2, z2, t2], 37), (cis [0, 0, 0, 0], 37), (ai 22 (dg (mu x1 x2)), 35), (ai 22 (dg (mu y1 y2)), 35), (ai 22 (dg (mu dN (mu t1 t2))), 35), (ai 22 (dg (mu z1 z2)), 35), (ai 22 (dg (ad (mu x1 y2) (mu y1 x2))), 35), (ai 22 (fun _ => 0), 35)] [#[], #[], #[], #[], #[], #[], #[], #[], ai 22 (dg (sb (mu z1 z2) (mu dN (mu t1 t2))))] [⟨none, none, some 6, false⟩, ⟨none, none, some 5, false⟩, nn, ⟨some 8, none, none, false⟩, ⟨none, some 8, none, false⟩] (by kernel_rfl) (by kernel_rfl) (by kernel_rfl) (by kernel_rfl) (by kernel_rfl) (by kernel_rfl) (by kernel_rfl) (by kernel_rfl) ?_ ?_
  · refine ok_cons (ok_load (b := 6) (off := 0) (c := ai 22 (dg (mu z1 z2))) (v := .agg (ai 22 (dg (mu z1 z2)))) (ld22 (F := (dg (mu z1 z2))) 35) rfl (by kernel_rfl) rfl (by kernel_rfl) (by kernel_rfl) (by kernel_rfl)) ?_
    refine ok_cons (ok_load (b := 5) (off := 0) (c := ai 22 (dg (mu dN (mu t1 t2)))) (v := .agg (ai 22 (dg (mu dN (mu t1 t2))))) (ld22 (F := (dg (mu dN (mu t1 t2)))) 35) rfl (by kernel_rfl) rfl (by kernel_rfl) (by kernel_rfl) (by kernel_rfl)) ?_
    refine ok_cons (ok_call (vs := #[.agg (ai 22 (dg (mu z1 z2))), .agg (ai 22 (dg (mu dN (mu t1 t2))))]) (R := .agg (ai 22 (dg (sb (mu z1 z2) (mu dN (mu t1 t2)))))) (fun w => minus_rm (mu_lt _ _) (mu_lt _ _) w) rfl (by kernel_rfl) rfl (by kernel_rfl) (by kernel_rfl) (by kernel_rfl) (fun w => by kernel_rfl)) ?_
    refine ok_cons (ok_alloc (b := 8) al22 rfl (by kernel_rfl) rfl (by kernel_rfl) (by kernel_rfl)) ?_
    refine ok_cons (ok_store (b := 8) (off := 0) (u := .agg (ai 22 (dg (sb (mu z1 z2) (mu dN (mu t1 t2)))))) (c := ai 22 (fun _ => 0)) (n := ai 22 (dg (sb (mu z1 z2) (mu dN (mu t1 t2))))) (st22 (F := (dg (sb (mu z1 z2) (mu dN (mu t1 t2))))) (c := ai 22 (fun _ => 0)) 35 (ai_size _ _)) rfl (by kernel_rfl) rfl (by kernel_rfl) (by kernel_rfl) (by kernel_rfl) (by kernel_rfl) (by kernel_rfl)) ?_
    exact ok_nil
  clear h; intro β a w h
  refine sym_then ?_
  refine sym_seq ?_
  refine St.region h [.inl (.agg (cis [x1, y1, z1, t1])), .inl (.agg (cis [x2, y2, z2, t2])), .inr (0, 0), .inr (1, 0), .inr (2, 0), .inr (3, 0), .inr (4, 0), .inr (5, 0), .inr (6, 0), .inr (7, 0), .inr (8, 0), .inr (9, 0), uu, .inr (0, 0), .inl (.agg (ai 22 (dg x1))), .inr (1, 0), .inl (.agg (ai 22 (dg x2))), .inl (.agg (ai 22 (dg (mu x1 x2)))), .inr (0, 22), .inl (.agg (ai 22 (dg y1))), .inr (1, 22), .inl (.agg (ai 22 (dg y2))), .inl (.agg (ai 22 (dg (mu y1 y2)))), .inl (.agg (ai 22 (dg dN))), .inr (0, 66), .inl (.agg (ai 22 (dg t1))), .inr (1, 66), .inl (.agg (ai 22 (dg t2))), .inl (.agg (ai 22 (dg (mu t1 t2)))), .inl (.agg (ai 22 (dg (mu dN (mu t1 t2))))), .inr (0, 44), .inl (.agg (ai 22 (dg z1))), .inr (1, 44), .inl (.agg (ai 22 (dg z2))), .inl (.agg (ai 22 (dg (mu z1 z2)))), .inr (0, 0), .inl (.agg (ai 22 (dg x1))), .inr (1, 22), .inl (.agg (ai 22 (dg y2))), .inl (.agg (ai 22 (dg (mu x1 y2)))), .inr (0, 22), .inl (.agg (ai 22 (dg y1))), .inr (1, 0), .inl (.agg (ai 22 (dg x2))), .inl (.agg (ai 22 (dg (mu y1 x2)))), .inl (.agg (ai 22 (dg (ad (mu x1 y2) (mu y1 x2))))), .inl (.agg (ai 22 (dg (mu z1 z2)))), .inl (.agg (ai 22 (dg (mu dN (mu t1 t2))))), .inl (.agg (ai 22 (dg (sb (mu z1 z2) (mu dN (mu t1 t2)))))), .inl (.agg (ai 22 (dg (mu z1 z2)))), .inl (.agg (ai 22 (dg (mu dN (mu t1 t2))))), .inl (.agg (ai 22 (dg (ad (mu z1 z2) (mu dN (mu t1 t2)))))), uu, uu, uu, uu, uu, uu, uu, uu, uu, uu, uu, uu, uu, uu, uu, uu] [(cis [x1, y1, z1, t1], 37), (cis [x2, y2, z2, t2], 37), (cis [0, 0, 0, 0], 37), (ai 22 (dg (mu x1 x2)), 35), (ai 22 (dg (mu y1 y2)), 35), (ai 22 (dg (mu dN (mu t1 t2))), 35), (ai 22 (dg (mu z1 z2)), 35), (ai 22 (dg (ad (mu x1 y2) (mu y1 x2))), 35), (ai 22 (dg (sb (mu z1 z2) (mu dN (mu t1 t2)))), 35), (ai 22 (dg (ad (mu z1 z2) (mu dN (mu t1 t2)))), 35)] [(cis [x1, y1, z1, t1], 37), (cis [x2, y2, z2, t2], 37), (cis [0, 0, 0, 0], 37), (ai 22 (dg (mu x1 x2)), 35), (ai 22 (dg (mu y1 y2)), 35), (ai 22 (dg (mu dN (mu t1 t2))), 35), (ai 22 (dg (mu z1 z2)), 35), (ai 22 (dg (ad (mu x1 y2) (mu y1 x2))), 35), (ai 22 (dg (sb (mu z1 z2) (mu dN (mu t1 t2)))), 35), (ai 22 (fun _ => 0), 35)] [#[], #[], #[], #[], #[], #[], #[], #[], #[], ai 22 (dg (ad (mu z1 z2) (mu dN (mu t1 t2))))] [⟨none, none, some 6, false⟩, ⟨none, none, some 5, false⟩, nn, ⟨some 9, none, none, false⟩, ⟨none, some 9, none, false⟩] (by kernel_rfl) (by kernel_rfl) (by kernel_rfl) (by kernel_rfl) (by kernel_rfl) (by kernel_rfl) (by kernel_rfl) (by kernel_rfl) ?_ ?_
  · refine ok_cons (ok_load (b := 6) (off := 0) (c := ai 22 (dg (mu z1 z2))) (v := .agg (ai 22 (dg (mu z1 z2)))) (ld22 (F := (dg (mu z1 z2))) 35) rfl (by kernel_rfl) rfl (by kernel_rfl) (by kernel_rfl) (by kernel_rfl)) ?_
    refine ok_cons (ok_load (b := 5) (off := 0) (c := ai 22 (dg (mu dN (mu t1 t2)))) (v := .agg (ai 22 (dg (mu dN (mu t1 t2))))) (ld22 (F := (dg (mu dN (mu t1 t2)))) 35) rfl (by kernel_rfl) rfl (by kernel_rfl) (by kernel_rfl) (by kernel_rfl)) ?_
    refine ok_cons (ok_call (vs := #[.agg (ai 22 (dg (mu z1 z2))), .agg (ai 22 (dg (mu dN (mu t1 t2))))]) (R := .agg (ai 22 (dg (ad (mu z1 z2) (mu dN (mu t1 t2)))))) (fun w => plus_rm (mu_lt _ _) (mu_lt _ _) w) rfl (by kernel_rfl) rfl (by kernel_rfl) (by kernel_rfl) (by kernel_rfl) (fun w => by kernel_rfl)) ?_
    refine ok_cons (ok_alloc (b := 9) al22 rfl (by kernel_rfl) rfl (by kernel_rfl) (by kernel_rfl)) ?_
    refine ok_cons (ok_store (b := 9) (off := 0) (u := .agg (ai 22 (dg (ad (mu z1 z2) (mu dN (mu t1 t2)))))) (c := ai 22 (fun _ => 0)) (n := ai 22 (dg (ad (mu z1 z2) (mu dN (mu t1 t2))))) (st22 (F := (dg (ad (mu z1 z2) (mu dN (mu t1 t2))))) (c := ai 22 (fun _ => 0)) 35 (ai_size _ _)) rfl (by kernel_rfl) rfl (by kernel_rfl) (by kernel_rfl) (by kernel_rfl) (by kernel_rfl) (by kernel_rfl)) ?_
    exact ok_nil
  clear h; intro β a w h
  refine sym_then ?_
  refine sym_seq ?_
  refine St.region h [.inl (.agg (cis [x1, y1, z1, t1])), .inl (.agg (cis [x2, y2, z2, t2])), .inr (0, 0), .inr (1, 0), .inr (2, 0), .inr (3, 0), .inr (4, 0), .inr (5, 0), .inr (6, 0), .inr (7, 0), .inr (8, 0), .inr (9, 0), .inr (10, 0), .inr (0, 0), .inl (.agg (ai 22 (dg x1))), .inr (1, 0), .inl (.agg (ai 22 (dg x2))), .inl (.agg (ai 22 (dg (mu x1 x2)))), .inr (0, 22), .inl (.agg (ai 22 (dg y1))), .inr (1, 22), .inl (.agg (ai 22 (dg y2))), .inl (.agg (ai 22 (dg (mu y1 y2)))), .inl (.agg (ai 22 (dg dN))), .inr (0, 66), .inl (.agg (ai 22 (dg t1))), .inr (1, 66), .inl (.agg (ai 22 (dg t2))), .inl (.agg (ai 22 (dg (mu t1 t2)))), .inl (.agg (ai 22 (dg (mu dN (mu t1 t2))))), .inr (0, 44), .inl (.agg (ai 22 (dg z1))), .inr (1, 44), .inl (.agg (ai 22 (dg z2))), .inl (.agg (ai 22 (dg (mu z1 z2)))), .inr (0, 0), .inl (.agg (ai 22 (dg x1))), .inr (1, 22), .inl (.agg (ai 22 (dg y2))), .inl (.agg (ai 22 (dg (mu x1 y2)))), .inr (0, 22), .inl (.agg (ai 22 (dg y1))), .inr (1, 0), .inl (.agg (ai 22 (dg x2))), .inl (.agg (ai 22 (dg (mu y1 x2)))), .inl (.agg (ai 22 (dg (ad (mu x1 y2) (mu y1 x2))))), .inl (.agg (ai 22 (dg (mu z1 z2)))), .inl (.agg (ai 22 (dg (mu dN (mu t1 t2))))), .inl (.agg (ai 22 (dg (sb (mu z1 z2) (mu dN (mu t1 t2)))))), .inl (.agg (ai 22 (dg (mu z1 z2)))), .inl (.agg (ai 22 (dg (mu dN (mu t1 t2))))), .inl (.agg (ai 22 (dg (ad (mu z1 z2) (mu dN (mu t1 t2)))))), .inl (.agg (ai 22 (dg (mu y1 y2)))), .inl (.agg (ai 22 (dg (mu x1 x2)))), .inl (.agg (ai 22 (dg (ad (mu y1 y2) (mu x1 x2))))), uu, uu, uu, uu, uu, uu, uu, uu, uu, uu, uu, uu, uu] [(cis [x1, y1, z1, t1], 37), (cis [x2, y2, z2, t2], 37), (cis [0, 0, 0, 0], 37), (ai 22 (dg (mu x1 x2)), 35), (ai 22 (dg (mu y1 y2)), 35), (ai 22 (dg (mu dN (mu t1 t2))), 35), (ai 22 (dg (mu z1 z2)), 35), (ai 22 (dg (ad (mu x1 y2) (mu y1 x2))), 35), (ai 22 (dg (sb (mu z1 z2) (mu dN (mu t1 t2)))), 35), (ai 22 (dg (ad (mu z1 z2) (mu dN (mu t1 t2)))), 35), (ai 22 (dg (ad (mu y1 y2) (mu x1 x2))), 35)] [(cis [x1, y1, z1, t1], 37), (cis [x2, y2, z2, t2], 37), (cis [0, 0, 0, 0], 37), (ai 22 (dg (mu x1 x2)), 35), (ai 22 (dg (mu y1 y2)), 35), (ai 22 (dg (mu dN (mu t1 t2))), 35), (ai 22 (dg (mu z1 z2)), 35), (ai 22 (dg (ad (mu x1 y2) (mu y1 x2))), 35), (ai 22 (dg (sb (mu z1 z2) (mu dN (mu t1 t2)))), 35), (ai 22 (dg (ad (mu z1 z2) (mu dN (mu t1 t2)))), 35), (ai 22 (fun _ => 0), 35)] [#[], #[], #[], #[], #[], #[], #[], #[], #[], #[], ai 22 (dg (ad (mu y1 y2) (mu x1 x2)))] [⟨none, none, some 4, false⟩, ⟨none, none, some 3, false⟩, nn, ⟨some 10, none, none, false⟩, ⟨none, some 10, none, false⟩] (by kernel_rfl) (by kernel_rfl) (by kernel_rfl) (by kernel_rfl) (by kernel_rfl) (by kernel_rfl) (by kernel_rfl) (by kernel_rfl) ?_ ?_
  · refine ok_cons (ok_load (b := 4) (off := 0) (c := ai 22 (dg (mu y1 y2))) (v := .agg (ai 22 (dg (mu y1 y2)))) (ld22 (F := (dg (mu y1 y2))) 35) rfl (by kernel_rfl) rfl (by kernel_rfl) (by kernel_rfl) (by kernel_rfl)) ?_
    refine ok_cons (ok_load (b := 3) (off := 0) (c := ai 22 (dg (mu x1 x2))) (v := .agg (ai 22 (dg (mu x1 x2)))) (ld22 (F := (dg (mu x1 x2))) 35) rfl (by kernel_rfl) rfl (by kernel_rfl) (by kernel_rfl) (by kernel_rfl)) ?_
    refine ok_cons (ok_call (vs := #[.agg (ai 22 (dg (mu y1 y2))), .agg (ai 22 (dg (mu x1 x2)))]) (R := .agg (ai 22 (dg (ad (mu y1 y2) (mu x1 x2))))) (fun w => plus_rm (mu_lt _ _) (mu_lt _ _) w) rfl (by kernel_rfl) rfl (by kernel_rfl) (by kernel_rfl) (by kernel_rfl) (fun w => by kernel_rfl)) ?_
    refine ok_cons (ok_alloc (b := 10) al22 rfl (by kernel_rfl) rfl (by kernel_rfl) (by kernel_rfl)) ?_
    refine ok_cons (ok_store (b := 10) (off := 0) (u := .agg (ai 22 (dg (ad (mu y1 y2) (mu x1 x2))))) (c := ai 22 (fun _ => 0)) (n := ai 22 (dg (ad (mu y1 y2) (mu x1 x2)))) (st22 (F := (dg (ad (mu y1 y2) (mu x1 x2)))) (c := ai 22 (fun _ => 0)) 35 (ai_size _ _)) rfl (by kernel_rfl) rfl (by kernel_rfl) (by kernel_rfl) (by kernel_rfl) (by kernel_rfl) (by kernel_rfl)) ?_
    exact ok_nil
  clear h; intro β a w h
  refine sym_then ?_
  refine sym_seq ?_
  refine St.region h [.inl (.agg (cis [x1, y1, z1, t1])), .inl (.agg (cis [x2, y2, z2, t2])), .inr (0, 0), .inr (1, 0), .inr (2, 0), .inr (3, 0), .inr (4, 0), .inr (5, 0), .inr (6, 0), .inr (7, 0), .inr (8, 0), .inr (9, 0), .inr (10, 0), .inr (0, 0), .inl (.agg (ai 22 (dg x1))), .inr (1, 0), .inl (.agg (ai 22 (dg x2))), .inl (.agg (ai 22 (dg (mu x1 x2)))), .inr (0, 22), .inl (.agg (ai 22 (dg y1))), .inr (1, 22), .inl (.agg (ai 22 (dg y2))), .inl (.agg (ai 22 (dg (mu y1 y2)))), .inl (.agg (ai 22 (dg dN))), .inr (0, 66), .inl (.agg (ai 22 (dg t1))), .inr (1, 66), .inl (.agg (ai 22 (dg t2))), .inl (.agg (ai 22 (dg (mu t1 t2)))), .inl (.agg (ai 22 (dg (mu dN (mu t1 t2))))), .inr (0, 44), .inl (.agg (ai 22 (dg z1))), .inr (1, 44), .inl (.agg (ai 22 (dg z2))), .inl (.agg (ai 22 (dg (mu z1 z2)))), .inr (0, 0), .inl (.agg (ai 22 (dg x1))), .inr (1, 22), .inl (.agg (ai 22 (dg y2))), .inl (.agg (ai 22 (dg (mu x1 y2)))), .inr (0, 22), .inl (.agg (ai 22 (dg y1))), .inr (1, 0), .inl (.agg (ai 22 (dg x2))), .inl (.agg (ai 22 (dg (mu y1 x2)))), .inl (.agg (ai 22 (dg (ad (mu x1 y2) (mu y1 x2))))), .inl (.agg (ai 22 (dg (mu z1 z2)))), .inl (.agg (ai 22 (dg (mu dN (mu t1 t2))))), .inl (.agg (ai 22 (dg (sb (mu z1 z2) (mu dN (mu t1 t2)))))), .inl (.agg (ai 22 (dg (mu z1 z2)))), .inl (.agg (ai 22 (dg (mu dN (mu t1 t2))))), .inl (.agg (ai 22 (dg (ad (mu z1 z2) (mu dN (mu t1 t2)))))), .inl (.agg (ai 22 (dg (mu y1 y2)))), .inl (.agg (ai 22 (dg (mu x1 x2)))), .inl (.agg (ai 22 (dg (ad (mu y1 y2) (mu x1 x2))))), .inl (.agg (ai 22 (dg (ad (mu x1 y2) (mu y1 x2))))), .inl (.agg (ai 22 (dg (sb (mu z1 z2) (mu dN (mu t1 t2)))))), .inl (.agg (ai 22 (dg (mu (ad (mu x1 y2) (mu y1 x2)) (sb (mu z1 z2) (mu dN (mu t1 t2))))))), .inl (.agg (ai 22 (dg (ad (mu z1 z2) (mu dN (mu t1 t2)))))), .inl (.agg (ai 22 (dg (ad (mu y1 y2) (mu x1 x2))))), .inl (.agg (ai 22 (dg (mu (ad (mu z1 z2) (mu dN (mu t1 t2))) (ad (mu y1 y2) (mu x1 x2)))))), .inl (.agg (ai 22 (dg (sb (mu z1 z2) (mu dN (mu t1 t2)))))), .inl (.agg (ai 22 (dg (ad (mu z1 z2) (mu dN (mu t1 t2)))))), .inl (.agg (ai 22 (dg (mu (sb (mu z1 z2) (mu dN (mu t1 t2))) (ad (mu z1 z2) (mu dN (mu t1 t2))))))), .inl (.agg (ai 22 (dg (ad (mu x1 y2) (mu y1 x2))))), .inl (.agg (ai 22 (dg (ad (mu y1 y2) (mu x1 x2))))), .inl (.agg (ai 22 (dg (mu (ad (mu x1 y2) (mu y1 x2)) (ad (mu y1 y2) (mu x1 x2)))))), .inl (.agg (cis [(mu (ad (mu x1 y2) (mu y1 x2)) (sb (mu z1 z2) (mu dN (mu t1 t2)))), (mu (ad (mu z1 z2) (mu dN (mu t1 t2))) (ad (mu y1 y2) (mu x1 x2))), (mu (sb (mu z1 z2) (mu dN (mu t1 t2))) (ad (mu z1 z2) (mu dN (mu t1 t2)))), (mu (ad (mu x1 y2) (mu y1 x2)) (ad (mu y1 y2) (mu x1 x2)))]))] [(cis [x1, y1, z1, t1], 37), (cis [x2, y2, z2, t2], 37), (cis [(mu (ad (mu x1 y2) (mu y1 x2)) (sb (mu z1 z2) (mu dN (mu t1 t2)))), (mu (ad (mu z1 z2) (mu dN (mu t1 t2))) (ad (mu y1 y2) (mu x1 x2))), (mu (sb (mu z1 z2) (mu dN (mu t1 t2))) (ad (mu z1 z2) (mu dN (mu t1 t2)))), (mu (ad (mu x1 y2) (mu y1 x2)) (ad (mu y1 y2) (mu x1 x2)))], 37), (ai 22 (dg (mu x1 x2)), 35), (ai 22 (dg (mu y1 y2)), 35), (ai 22 (dg (mu dN (mu t1 t2))), 35), (ai 22 (dg (mu z1 z2)), 35), (ai 22 (dg (ad (mu x1 y2) (mu y1 x2))), 35), (ai 22 (dg (sb (mu z1 z2) (mu dN (mu t1 t2)))), 35), (ai 22 (dg (ad (mu z1 z2) (mu dN (mu t1 t2)))), 35), (ai 22 (dg (ad (mu y1 y2) (mu x1 x2))), 35)] [(cis [x1, y1, z1, t1], 37), (cis [x2, y2, z2, t2], 37), (cis [0, 0, 0, 0], 37), (ai 22 (dg (mu x1 x2)), 35), (ai 22 (dg (mu y1 y2)), 35), (ai 22 (dg (mu dN (mu t1 t2))), 35), (ai 22 (dg (mu z1 z2)), 35), (ai 22 (dg (ad (mu x1 y2) (mu y1 x2))), 35), (ai 22 (dg (sb (mu z1 z2) (mu dN (mu t1 t2)))), 35), (ai 22 (dg (ad (mu z1 z2) (mu dN (mu t1 t2)))), 35), (ai 22 (dg (ad (mu y1 y2) (mu x1 x2))), 35)] [#[], #[], cis [(mu (ad (mu x1 y2) (mu y1 x2)) (sb (mu z1 z2) (mu dN (mu t1 t2)))), (mu (ad (mu z1 z2) (mu dN (mu t1 t2))) (ad (mu y1 y2) (mu x1 x2))), (mu (sb (mu z1 z2) (mu dN (mu t1 t2))) (ad (mu z1 z2) (mu dN (mu t1 t2)))), (mu (ad (mu x1 y2) (mu y1 x2)) (ad (mu y1 y2) (mu x1 x2)))], #[], #[], #[], #[], #[], #[], #[], #[]] [⟨none, none, some 7, false⟩, ⟨none, none, some 8, false⟩, nn, ⟨none, none, some 9, false⟩, ⟨none, none, some 10, false⟩, nn, ⟨none, none, some 8, false⟩, ⟨none, none, some 9, false⟩, nn, ⟨none, none, some 7, false⟩, ⟨none, none, some 10, false⟩, nn, nn, ⟨none, some 2, none, false⟩] (by kernel_rfl) (by kernel_rfl) (by kernel_rfl) (by kernel_rfl) (by kernel_rfl) (by kernel_rfl) (by kernel_rfl) (by kernel_rfl) ?_ ?_
  · refine ok_cons (ok_load (b := 7) (off := 0) (c := ai 22 (dg (ad (mu x1 y2) (mu y1 x2)))) (v := .agg (ai 22 (dg (ad (mu x1 y2) (mu y1 x2))))) (ld22 (F := (dg (ad (mu x1 y2) (mu y1 x2)))) 35) rfl (by kernel_rfl) rfl (by kernel_rfl) (by kernel_rfl) (by kernel_rfl)) ?_
    refine ok_cons (ok_load (b := 8) (off := 0) (c := ai 22 (dg (sb (mu z1 z2) (mu dN (mu t1 t2))))) (v := .agg (ai 22 (dg (sb (mu z1 z2) (mu dN (mu t1 t2)))))) (ld22 (F := (dg (sb (mu z1 z2) (mu dN (mu t1 t2))))) 35) rfl (by kernel_rfl) rfl (by kernel_rfl) (by kernel_rfl) (by kernel_rfl)) ?_
    refine ok_cons (ok_call (vs := #[.agg (ai 22 (dg (ad (mu x1 y2) (mu y1 x2)))), .agg (ai 22 (dg (sb (mu z1 z2) (mu dN (mu t1 t2)))))]) (R := .agg (ai 22 (dg (mu (ad (mu x1 y2) (mu y1 x2)) (sb (mu z1 z2) (mu dN (mu t1 t2))))))) (fun w => times_rm (ad_lt _ _) (sb_lt _ _) w) rfl (by kernel_rfl) rfl (by kernel_rfl) (by kernel_rfl) (by kernel_rfl) (fun w => by kernel_rfl)) ?_
    refine ok_cons (ok_load (b := 9) (off := 0) (c := ai 22 (dg (ad (mu z1 z2) (mu dN (mu t1 t2))))) (v := .agg (ai 22 (dg (ad (mu z1 z2) (mu dN (mu t1 t2)))))) (ld22 (F := (dg (ad (mu z1 z2) (mu dN (mu t1 t2))))) 35) rfl (by kernel_rfl) rfl (by kernel_rfl) (by kernel_rfl) (by kernel_rfl)) ?_
    refine ok_cons (ok_load (b := 10) (off := 0) (c := ai 22 (dg (ad (mu y1 y2) (mu x1 x2)))) (v := .agg (ai 22 (dg (ad (mu y1 y2) (mu x1 x2))))) (ld22 (F := (dg (ad (mu y1 y2) (mu x1 x2)))) 35) rfl (by kernel_rfl) rfl (by kernel_rfl) (by kernel_rfl) (by kernel_rfl)) ?_
    refine ok_cons (ok_call (vs := #[.agg (ai 22 (dg (ad (mu z1 z2) (mu dN (mu t1 t2))))), .agg (ai 22 (dg (ad (mu y1 y2) (mu x1 x2))))]) (R := .agg (ai 22 (dg (mu (ad (mu z1 z2) (mu dN (mu t1 t2))) (ad (mu y1 y2) (mu x1 x2)))))) (fun w => times_rm (ad_lt _ _) (ad_lt _ _) w) rfl (by kernel_rfl) rfl (by kernel_rfl) (by kernel_rfl) (by kernel_rfl) (fun w => by kernel_rfl)) ?_
    refine ok_cons (ok_load (b := 8) (off := 0) (c := ai 22 (dg (sb (mu z1 z2) (mu dN (mu t1 t2))))) (v := .agg (ai 22 (dg (sb (mu z1 z2) (mu dN (mu t1 t2)))))) (ld22 (F := (dg (sb (mu z1 z2) (mu dN (mu t1 t2))))) 35) rfl (by kernel_rfl) rfl (by kernel_rfl) (by kernel_rfl) (by kernel_rfl)) ?_
    refine ok_cons (ok_load (b := 9) (off := 0) (c := ai 22 (dg (ad (mu z1 z2) (mu dN (mu t1 t2))))) (v := .agg (ai 22 (dg (ad (mu z1 z2) (mu dN (mu t1 t2)))))) (ld22 (F := (dg (ad (mu z1 z2) (mu dN (mu t1 t2))))) 35) rfl (by kernel_rfl) rfl (by kernel_rfl) (by kernel_rfl) (by kernel_rfl)) ?_
    refine ok_cons (ok_call (vs := #[.agg (ai 22 (dg (sb (mu z1 z2) (mu dN (mu t1 t2))))), .agg (ai 22 (dg (ad (mu z1 z2) (mu dN (mu t1 t2)))))]) (R := .agg (ai 22 (dg (mu (sb (mu z1 z2) (mu dN (mu t1 t2))) (ad (mu z1 z2) (mu dN (mu t1 t2))))))) (fun w => times_rm (sb_lt _ _) (ad_lt _ _) w) rfl (by kernel_rfl) rfl (by kernel_rfl) (by kernel_rfl) (by kernel_rfl) (fun w => by kernel_rfl)) ?_
    refine ok_cons (ok_load (b := 7) (off := 0) (c := ai 22 (dg (ad (mu x1 y2) (mu y1 x2)))) (v := .agg (ai 22 (dg (ad (mu x1 y2) (mu y1 x2))))) (ld22 (F := (dg (ad (mu x1 y2) (mu y1 x2)))) 35) rfl (by kernel_rfl) rfl (by kernel_rfl) (by kernel_rfl) (by kernel_rfl)) ?_
    refine ok_cons (ok_load (b := 10) (off := 0) (c := ai 22 (dg (ad (mu y1 y2) (mu x1 x2)))) (v := .agg (ai 22 (dg (ad (mu y1 y2) (mu x1 x2))))) (ld22 (F := (dg (ad (mu y1 y2) (mu x1 x2)))) 35) rfl (by kernel_rfl) rfl (by kernel_rfl) (by kernel_rfl) (by kernel_rfl)) ?_
    refine ok_cons (ok_call (vs := #[.agg (ai 22 (dg (ad (mu x1 y2) (mu y1 x2)))), .agg (ai 22 (dg (ad (mu y1 y2) (mu x1 x2))))]) (R := .agg (ai 22 (dg (mu (ad (mu x1 y2) (mu y1 x2)) (ad (mu y1 y2) (mu x1 x2)))))) (fun w => times_rm (ad_lt _ _) (ad_lt _ _) w) rfl (by kernel_rfl) rfl (by kernel_rfl) (by kernel_rfl) (by kernel_rfl) (fun w => by kernel_rfl)) ?_
    refine ok_cons (ok_build (vs := #[(0, .agg (ai 22 (dg (mu (ad (mu x1 y2) (mu y1 x2)) (sb (mu z1 z2) (mu dN (mu t1 t2))))))), (1, .agg (ai 22 (dg (mu (ad (mu z1 z2) (mu dN (mu t1 t2))) (ad (mu y1 y2) (mu x1 x2)))))), (2, .agg (ai 22 (dg (mu (sb (mu z1 z2) (mu dN (mu t1 t2))) (ad (mu z1 z2) (mu dN (mu t1 t2))))))), (3, .agg (ai 22 (dg (mu (ad (mu x1 y2) (mu y1 x2)) (ad (mu y1 y2) (mu x1 x2))))))]) (v := .agg (cis [(mu (ad (mu x1 y2) (mu y1 x2)) (sb (mu z1 z2) (mu dN (mu t1 t2)))), (mu (ad (mu z1 z2) (mu dN (mu t1 t2))) (ad (mu y1 y2) (mu x1 x2))), (mu (sb (mu z1 z2) (mu dN (mu t1 t2))) (ad (mu z1 z2) (mu dN (mu t1 t2)))), (mu (ad (mu x1 y2) (mu y1 x2)) (ad (mu y1 y2) (mu x1 x2)))])) (bdR (a := (mu (ad (mu x1 y2) (mu y1 x2)) (sb (mu z1 z2) (mu dN (mu t1 t2))))) (b := (mu (ad (mu z1 z2) (mu dN (mu t1 t2))) (ad (mu y1 y2) (mu x1 x2)))) (c := (mu (sb (mu z1 z2) (mu dN (mu t1 t2))) (ad (mu z1 z2) (mu dN (mu t1 t2))))) (d := (mu (ad (mu x1 y2) (mu y1 x2)) (ad (mu y1 y2) (mu x1 x2))))) rfl (by kernel_rfl) rfl (by kernel_rfl) (by kernel_rfl) (by kernel_rfl)) ?_
    refine ok_cons (ok_store (b := 2) (off := 0) (u := .agg (cis [(mu (ad (mu x1 y2) (mu y1 x2)) (sb (mu z1 z2) (mu dN (mu t1 t2)))), (mu (ad (mu z1 z2) (mu dN (mu t1 t2))) (ad (mu y1 y2) (mu x1 x2))), (mu (sb (mu z1 z2) (mu dN (mu t1 t2))) (ad (mu z1 z2) (mu dN (mu t1 t2)))), (mu (ad (mu x1 y2) (mu y1 x2)) (ad (mu y1 y2) (mu x1 x2)))])) (c := cis [0, 0, 0, 0]) (n := cis [(mu (ad (mu x1 y2) (mu y1 x2)) (sb (mu z1 z2) (mu dN (mu t1 t2)))), (mu (ad (mu z1 z2) (mu dN (mu t1 t2))) (ad (mu y1 y2) (mu x1 x2))), (mu (sb (mu z1 z2) (mu dN (mu t1 t2))) (ad (mu z1 z2) (mu dN (mu t1 t2)))), (mu (ad (mu x1 y2) (mu y1 x2)) (ad (mu y1 y2) (mu x1 x2)))]) (stR (a := (mu (ad (mu x1 y2) (mu y1 x2)) (sb (mu z1 z2) (mu dN (mu t1 t2))))) (b := (mu (ad (mu z1 z2) (mu dN (mu t1 t2))) (ad (mu y1 y2) (mu x1 x2)))) (c := (mu (sb (mu z1 z2) (mu dN (mu t1 t2))) (ad (mu z1 z2) (mu dN (mu t1 t2))))) (d := (mu (ad (mu x1 y2) (mu y1 x2)) (ad (mu y1 y2) (mu x1 x2)))) (e := cis [0, 0, 0, 0]) 37 (by rw [cis_size]; rfl)) rfl (by kernel_rfl) rfl (by kernel_rfl) (by kernel_rfl) (by kernel_rfl) (by kernel_rfl) (by kernel_rfl)) ?_
    exact ok_nil
  clear h; intro β a w h
  refine sym_then ?_
  refine wp_ret ?_
  exact sym_retc (b := 2) (t0 := 37) (c := cis [(mu (ad (mu x1 y2) (mu y1 x2)) (sb (mu z1 z2) (mu dN (mu t1 t2)))), (mu (ad (mu z1 z2) (mu dN (mu t1 t2))) (ad (mu y1 y2) (mu x1 x2))), (mu (sb (mu z1 z2) (mu dN (mu t1 t2))) (ad (mu z1 z2) (mu dN (mu t1 t2)))), (mu (ad (mu x1 y2) (mu y1 x2)) (ad (mu y1 y2) (mu x1 x2)))]) h Try.results15 (by kernel_rfl) (by kernel_rfl) (by kernel_rfl) Try.underlying37 rfl (by rw [cis_size]; kernel_rfl) (fun hb => ⟨rfl, hb⟩)

set_option maxHeartbeats 4000000 in
theorem turned_r {x1 y1 z1 t1 : Nat} (hx1 : x1 < pp) (ht1 : t1 < pp) (W0 : World) : Calls Try.prog 17 #[.agg (cis [x1, y1, z1, t1])] W0 fun e w' => e = .returned (.agg (cis [sb 0 x1, y1, z1, sb 0 t1])) ∧ Below W0.heap.size W0 w' := by
  refine sym_enter Try.func17 Try.ntmps17 rfl [.inl (.agg (cis [x1, y1, z1, t1])), uu, uu, uu, uu, uu, uu, uu, uu, uu, uu, uu, uu, uu] (by kernel_rfl) (by kernel_rfl) ?_
  intro β a h
  refine sym_seq ?_
  refine St.region h [.inl (.agg (cis [x1, y1, z1, t1])), .inr (0, 0), .inr (1, 0), uu, uu, uu, uu, uu, uu, uu, uu, uu, uu, uu] [(cis [x1, y1, z1, t1], 37), (cis [0, 0, 0, 0], 37)] [(cis [x1, y1, z1, t1], 37), (cis [0, 0, 0, 0], 37)] [#[], #[]] [⟨some 0, none, none, false⟩, ⟨some 1, none, none, false⟩] (by kernel_rfl) (by kernel_rfl) (by kernel_rfl) (by kernel_rfl) (by kernel_rfl) (by kernel_rfl) (by kernel_rfl) (by kernel_rfl) ?_ ?_
  · refine ok_cons (ok_box (b := 0) (u := .agg (cis [x1, y1, z1, t1])) (bxR (a := x1) (b := y1) (c := z1) (d := t1)) rfl (by kernel_rfl) rfl (by kernel_rfl) (by kernel_rfl) (by kernel_rfl) (by kernel_rfl)) ?_
    refine ok_cons (ok_alloc (b := 1) alR rfl (by kernel_rfl) rfl (by kernel_rfl) (by kernel_rfl)) ?_
    exact ok_nil
  clear h; intro β a w h
  refine sym_then ?_
  refine sym_seq ?_
  refine St.region h [.inl (.agg (cis [x1, y1, z1, t1])), .inr (0, 0), .inr (1, 0), .inl (.agg (ai 22 (dg 0))), .inr (0, 0), .inl (.agg (ai 22 (dg x1))), .inl (.agg (ai 22 (dg (sb 0 x1)))), .inr (0, 0), uu, uu, uu, uu, uu, uu] [(cis [(sb 0 x1), y1, z1, t1], 37), (cis [0, 0, 0, 0], 37)] [(cis [x1, y1, z1, t1], 37), (cis [0, 0, 0, 0], 37)] [cis [(sb 0 x1), y1, z1, t1], #[]] [nn, nn, ⟨none, none, some 0, false⟩, nn, nn, ⟨none, some 0, none, false⟩] (by kernel_rfl) (by kernel_rfl) (by kernel_rfl) (by kernel_rfl) (by kernel_rfl) (by kernel_rfl) (by kernel_rfl) (by kernel_rfl) ?_ ?_
  · refine ok_cons (ok_build (vs := #[]) (v := .agg (ai 22 (dg 0))) bd22 rfl (by kernel_rfl) rfl (by kernel_rfl) (by kernel_rfl) (by kernel_rfl)) ?_
    refine ok_cons (ok_faddr (b := 0) (off := 0) (off' := 0) (fun w q => by kernel_rfl) rfl (by kernel_rfl) rfl (by kernel_rfl) (by kernel_rfl)) ?_
    refine ok_cons (ok_load (b := 0) (off := 0) (c := cis [x1, y1, z1, t1]) (v := .agg (ai 22 (dg x1))) (ld_cis (l := [x1, y1, z1, t1]) (k := 0) (n := x1) 37 rfl) rfl (by kernel_rfl) rfl (by kernel_rfl) (by kernel_rfl) (by kernel_rfl)) ?_
    refine ok_cons (ok_call (vs := #[.agg (ai 22 (dg 0)), .agg (ai 22 (dg x1))]) (R := .agg (ai 22 (dg (sb 0 x1)))) (fun w => minus_rm zero_ltp hx1 w) rfl (by kernel_rfl) rfl (by kernel_rfl) (by kernel_rfl) (by kernel_rfl) (fun w => by kernel_rfl)) ?_
    refine ok_cons (ok_faddr (b := 0) (off := 0) (off' := 0) (fun w q => by kernel_rfl) rfl (by kernel_rfl) rfl (by kernel_rfl) (by kernel_rfl)) ?_
    refine ok_cons (ok_store (b := 0) (off := 0) (u := .agg (ai 22 (dg (sb 0 x1)))) (c := cis [x1, y1, z1, t1]) (n := cis [(sb 0 x1), y1, z1, t1]) (st_cis (c := cis [x1, y1, z1, t1]) (v := (sb 0 x1)) (off := 0) (n := cis [(sb 0 x1), y1, z1, t1]) 37 (by rw [cis_size]; simp) (cis_set0 x1 y1 z1 t1 (sb 0 x1))) rfl (by kernel_rfl) rfl (by kernel_rfl) (by kernel_rfl) (by kernel_rfl) (by kernel_rfl) (by kernel_rfl)) ?_
    exact ok_nil
  clear h; intro β a w h
  refine sym_then ?_
  refine sym_seq ?_
  refine St.region h [.inl (.agg (cis [x1, y1, z1, t1])), .inr (0, 0), .inr (1, 0), .inl (.agg (ai 22 (dg 0))), .inr (0, 0), .inl (.agg (ai 22 (dg x1))), .inl (.agg (ai 22 (dg (sb 0 x1)))), .inr (0, 0), .inl (.agg (ai 22 (dg 0))), .inr (0, 66), .inl (.agg (ai 22 (dg t1))), .inl (.agg (ai 22 (dg (sb 0 t1)))), .inr (0, 66), uu] [(cis [(sb 0 x1), y1, z1, (sb 0 t1)], 37), (cis [0, 0, 0, 0], 37)] [(cis [(sb 0 x1), y1, z1, t1], 37), (cis [0, 0, 0, 0], 37)] [cis [(sb 0 x1), y1, z1, (sb 0 t1)], #[]] [nn, nn, ⟨none, none, some 0, false⟩, nn, nn, ⟨none, some 0, none, false⟩] (by kernel_rfl) (by kernel_rfl) (by kernel_rfl) (by kernel_rfl) (by kernel_rfl) (by kernel_rfl) (by kernel_rfl) (by kernel_rfl) ?_ ?_
  · refine ok_cons (ok_build (vs := #[]) (v := .agg (ai 22 (dg 0))) bd22 rfl (by kernel_rfl) rfl (by kernel_rfl) (by kernel_rfl) (by kernel_rfl)) ?_
    refine ok_cons (ok_faddr (b := 0) (off := 0) (off' := 66) (fun w q => by kernel_rfl) rfl (by kernel_rfl) rfl (by kernel_rfl) (by kernel_rfl)) ?_
    refine ok_cons (ok_load (b := 0) (off := 66) (c := cis [(sb 0 x1), y1, z1, t1]) (v := .agg (ai 22 (dg t1))) (ld_cis (l := [(sb 0 x1), y1, z1, t1]) (k := 3) (n := t1) 37 rfl) rfl (by kernel_rfl) rfl (by kernel_rfl) (by kernel_rfl) (by kernel_rfl)) ?_
    refine ok_cons (ok_call (vs := #[.agg (ai 22 (dg 0)), .agg (ai 22 (dg t1))]) (R := .agg (ai 22 (dg (sb 0 t1)))) (fun w => minus_rm zero_ltp ht1 w) rfl (by kernel_rfl) rfl (by kernel_rfl) (by kernel_rfl) (by kernel_rfl) (fun w => by kernel_rfl)) ?_
    refine ok_cons (ok_faddr (b := 0) (off := 0) (off' := 66) (fun w q => by kernel_rfl) rfl (by kernel_rfl) rfl (by kernel_rfl) (by kernel_rfl)) ?_
    refine ok_cons (ok_store (b := 0) (off := 66) (u := .agg (ai 22 (dg (sb 0 t1)))) (c := cis [(sb 0 x1), y1, z1, t1]) (n := cis [(sb 0 x1), y1, z1, (sb 0 t1)]) (st_cis (c := cis [(sb 0 x1), y1, z1, t1]) (v := (sb 0 t1)) (off := 66) (n := cis [(sb 0 x1), y1, z1, (sb 0 t1)]) 37 (by rw [cis_size]; simp) (cis_set3 (sb 0 x1) y1 z1 t1 (sb 0 t1))) rfl (by kernel_rfl) rfl (by kernel_rfl) (by kernel_rfl) (by kernel_rfl) (by kernel_rfl) (by kernel_rfl)) ?_
    exact ok_nil
  clear h; intro β a w h
  refine sym_then ?_
  refine sym_seq ?_
  refine St.region h [.inl (.agg (cis [x1, y1, z1, t1])), .inr (0, 0), .inr (1, 0), .inl (.agg (ai 22 (dg 0))), .inr (0, 0), .inl (.agg (ai 22 (dg x1))), .inl (.agg (ai 22 (dg (sb 0 x1)))), .inr (0, 0), .inl (.agg (ai 22 (dg 0))), .inr (0, 66), .inl (.agg (ai 22 (dg t1))), .inl (.agg (ai 22 (dg (sb 0 t1)))), .inr (0, 66), .inl (.agg (cis [(sb 0 x1), y1, z1, (sb 0 t1)]))] [(cis [(sb 0 x1), y1, z1, (sb 0 t1)], 37), (cis [(sb 0 x1), y1, z1, (sb 0 t1)], 37)] [(cis [(sb 0 x1), y1, z1, (sb 0 t1)], 37), (cis [0, 0, 0, 0], 37)] [#[], cis [(sb 0 x1), y1, z1, (sb 0 t1)]] [⟨none, none, some 0, false⟩, ⟨none, some 1, none, false⟩] (by kernel_rfl) (by kernel_rfl) (by kernel_rfl) (by kernel_rfl) (by kernel_rfl) (by kernel_rfl) (by kernel_rfl) (by kernel_rfl) ?_ ?_
  · refine ok_cons (ok_load (b := 0) (off := 0) (c := cis [(sb 0 x1), y1, z1, (sb 0 t1)]) (v := .agg (cis [(sb 0 x1), y1, z1, (sb 0 t1)])) (ldR (a := (sb 0 x1)) (b := y1) (c := z1) (d := (sb 0 t1)) 37) rfl (by kernel_rfl) rfl (by kernel_rfl) (by kernel_rfl) (by kernel_rfl)) ?_
    refine ok_cons (ok_store (b := 1) (off := 0) (u := .agg (cis [(sb 0 x1), y1, z1, (sb 0 t1)])) (c := cis [0, 0, 0, 0]) (n := cis [(sb 0 x1), y1, z1, (sb 0 t1)]) (stR (a := (sb 0 x1)) (b := y1) (c := z1) (d := (sb 0 t1)) (e := cis [0, 0, 0, 0]) 37 (by rw [cis_size]; rfl)) rfl (by kernel_rfl) rfl (by kernel_rfl) (by kernel_rfl) (by kernel_rfl) (by kernel_rfl) (by kernel_rfl)) ?_
    exact ok_nil
  clear h; intro β a w h
  refine sym_then ?_
  refine wp_ret ?_
  exact sym_retc (b := 1) (t0 := 37) (c := cis [(sb 0 x1), y1, z1, (sb 0 t1)]) h Try.results17 (by kernel_rfl) (by kernel_rfl) (by kernel_rfl) Try.underlying37 rfl (by rw [cis_size]; kernel_rfl) (fun hb => ⟨rfl, hb⟩)

set_option maxHeartbeats 4000000 in
theorem rkey_e {x1 y1 z1 t1 : Nat} (hx1 : x1 < pp) (hy1 : y1 < pp) (hz1 : z1 < pp) (hev : (mu x1 (inv z1)) % 2 = 0) (W0 : World) : Calls Try.prog 13 #[.agg (cis [x1, y1, z1, t1])] W0 fun e w' => e = .returned (.agg (ck (kb (mu y1 (inv z1))))) ∧ Below W0.heap.size W0 w' := by
  have g1 := dg_par4 (mu x1 (inv z1))
  refine sym_enter Try.func13 Try.ntmps13 rfl [.inl (.agg (cis [x1, y1, z1, t1])), uu, uu, uu, uu, uu, uu, uu, uu, uu, uu, uu, uu, uu, uu, uu, uu, uu, uu, uu, uu, uu, uu] (by kernel_rfl) (by kernel_rfl) ?_
  intro β a h
  refine sym_seq ?_
  refine St.region h [.inl (.agg (cis [x1, y1, z1, t1])), .inr (0, 0), .inr (1, 0), uu, uu, uu, uu, uu, uu, uu, uu, uu, uu, uu, uu, uu, uu, uu, uu, uu, uu, uu, uu] [(cis [x1, y1, z1, t1], 37), (ck (fun _ => 0), 23)] [(cis [x1, y1, z1, t1], 37), (ck (fun _ => 0), 23)] [#[], #[]] [⟨some 0, none, none, false⟩, ⟨some 1, none, none, false⟩] (by kernel_rfl) (by kernel_rfl) (by kernel_rfl) (by kernel_rfl) (by kernel_rfl) (by kernel_rfl) (by kernel_rfl) (by kernel_rfl) ?_ ?_
  · refine ok_cons (ok_box (b := 0) (u := .agg (cis [x1, y1, z1, t1])) (bxR (a := x1) (b := y1) (c := z1) (d := t1)) rfl (by kernel_rfl) rfl (by kernel_rfl) (by kernel_rfl) (by kernel_rfl) (by kernel_rfl)) ?_
    refine ok_cons (ok_alloc (b := 1) alK rfl (by kernel_rfl) rfl (by kernel_rfl) (by kernel_rfl)) ?_
    exact ok_nil
  clear h; intro β a w h
  refine sym_then ?_
  refine sym_seq ?_
  refine St.region h [.inl (.agg (cis [x1, y1, z1, t1])), .inr (0, 0), .inr (1, 0), .inr (2, 0), .inr (0, 22), .inl (.agg (ai 22 (dg y1))), .inr (0, 44), .inl (.agg (ai 22 (dg z1))), .inl (.agg (ai 22 (dg (mu y1 (inv z1))))), .inl (.agg (ck (kb (mu y1 (inv z1))))), uu, uu, uu, uu, uu, uu, uu, uu, uu, uu, uu, uu, uu] [(cis [x1, y1, z1, t1], 37), (ck (fun _ => 0), 23), (ck (kb (mu y1 (inv z1))), 23)] [(cis [x1, y1, z1, t1], 37), (ck (fun _ => 0), 23), (ck (fun _ => 0), 23)] [#[], #[], ck (kb (mu y1 (inv z1)))] [nn, ⟨none, none, some 0, false⟩, nn, ⟨none, none, some 0, false⟩, nn, nn, ⟨some 2, none, none, false⟩, ⟨none, some 2, none, false⟩] (by kernel_rfl) (by kernel_rfl) (by kernel_rfl) (by kernel_rfl) (by kernel_rfl) (by kernel_rfl) (by kernel_rfl) (by kernel_rfl) ?_ ?_
  · refine ok_cons (ok_faddr (b := 0) (off := 0) (off' := 22) (fun w q => by kernel_rfl) rfl (by kernel_rfl) rfl (by kernel_rfl) (by kernel_rfl)) ?_
    refine ok_cons (ok_load (b := 0) (off := 22) (c := cis [x1, y1, z1, t1]) (v := .agg (ai 22 (dg y1))) (ld_cis (l := [x1, y1, z1, t1]) (k := 1) (n := y1) 37 rfl) rfl (by kernel_rfl) rfl (by kernel_rfl) (by kernel_rfl) (by kernel_rfl)) ?_
    refine ok_cons (ok_faddr (b := 0) (off := 0) (off' := 44) (fun w q => by kernel_rfl) rfl (by kernel_rfl) rfl (by kernel_rfl) (by kernel_rfl)) ?_
    refine ok_cons (ok_load (b := 0) (off := 44) (c := cis [x1, y1, z1, t1]) (v := .agg (ai 22 (dg z1))) (ld_cis (l := [x1, y1, z1, t1]) (k := 2) (n := z1) 37 rfl) rfl (by kernel_rfl) rfl (by kernel_rfl) (by kernel_rfl) (by kernel_rfl)) ?_
    refine ok_cons (ok_call (vs := #[.agg (ai 22 (dg y1)), .agg (ai 22 (dg z1))]) (R := .agg (ai 22 (dg (mu y1 (inv z1))))) (fun w => over_rm hy1 hz1 w) rfl (by kernel_rfl) rfl (by kernel_rfl) (by kernel_rfl) (by kernel_rfl) (fun w => by kernel_rfl)) ?_
    refine ok_cons (ok_call (vs := #[.agg (ai 22 (dg (mu y1 (inv z1))))]) (R := .agg (ck (kb (mu y1 (inv z1))))) (fun w => key_rm (mu_lt _ _) w) rfl (by kernel_rfl) rfl (by kernel_rfl) (by kernel_rfl) (by kernel_rfl) (fun w => by kernel_rfl)) ?_
    refine ok_cons (ok_alloc (b := 2) alK rfl (by kernel_rfl) rfl (by kernel_rfl) (by kernel_rfl)) ?_
    refine ok_cons (ok_store (b := 2) (off := 0) (u := .agg (ck (kb (mu y1 (inv z1))))) (c := ck (fun _ => 0)) (n := ck (kb (mu y1 (inv z1)))) (stK (F := (kb (mu y1 (inv z1)))) (c := ck (fun _ => 0)) 23 (ck_size _)) rfl (by kernel_rfl) rfl (by kernel_rfl) (by kernel_rfl) (by kernel_rfl) (by kernel_rfl) (by kernel_rfl)) ?_
    exact ok_nil
  clear h; intro β a w h
  refine sym_then ?_
  refine sym_seq ?_
  refine sym_seq ?_
  refine St.region h [.inl (.agg (cis [x1, y1, z1, t1])), .inr (0, 0), .inr (1, 0), .inr (2, 0), .inr (0, 22), .inl (.agg (ai 22 (dg y1))), .inr (0, 44), .inl (.agg (ai 22 (dg z1))), .inl (.agg (ai 22 (dg (mu y1 (inv z1))))), .inl (.agg (ck (kb (mu y1 (inv z1))))), .inr (0, 0), .inl (.agg (ai 22 (dg x1))), .inr (0, 44), .inl (.agg (ai 22 (dg z1))), .inl (.agg (ai 22 (dg (mu x1 (inv z1))))), .inl (.int .i64 (((dg (mu x1 (inv z1)) 0) : Nat) : Int)), .inl (.int .i64 ((((dg (mu x1 (inv z1)) 0) % 2) : Nat) : Int)), .inl (.bool false), uu, uu, uu, uu, uu] [(cis [x1, y1, z1, t1], 37), (ck (fun _ => 0), 23), (ck (kb (mu y1 (inv z1))), 23)] [(cis [x1, y1, z1, t1], 37), (ck (fun _ => 0), 23), (ck (kb (mu y1 (inv z1))), 23)] [#[], #[], #[]] [nn, ⟨none, none, some 0, false⟩, nn, ⟨none, none, some 0, false⟩, nn, nn, nn, nn] (by kernel_rfl) (by kernel_rfl) (by kernel_rfl) (by kernel_rfl) (by kernel_rfl) (by kernel_rfl) (by kernel_rfl) (by kernel_rfl) ?_ ?_
  · refine ok_cons (ok_faddr (b := 0) (off := 0) (off' := 0) (fun w q => by kernel_rfl) rfl (by kernel_rfl) rfl (by kernel_rfl) (by kernel_rfl)) ?_
    refine ok_cons (ok_load (b := 0) (off := 0) (c := cis [x1, y1, z1, t1]) (v := .agg (ai 22 (dg x1))) (ld_cis (l := [x1, y1, z1, t1]) (k := 0) (n := x1) 37 rfl) rfl (by kernel_rfl) rfl (by kernel_rfl) (by kernel_rfl) (by kernel_rfl)) ?_
    refine ok_cons (ok_faddr (b := 0) (off := 0) (off' := 44) (fun w q => by kernel_rfl) rfl (by kernel_rfl) rfl (by kernel_rfl) (by kernel_rfl)) ?_
    refine ok_cons (ok_load (b := 0) (off := 44) (c := cis [x1, y1, z1, t1]) (v := .agg (ai 22 (dg z1))) (ld_cis (l := [x1, y1, z1, t1]) (k := 2) (n := z1) 37 rfl) rfl (by kernel_rfl) rfl (by kernel_rfl) (by kernel_rfl) (by kernel_rfl)) ?_
    refine ok_cons (ok_call (vs := #[.agg (ai 22 (dg x1)), .agg (ai 22 (dg z1))]) (R := .agg (ai 22 (dg (mu x1 (inv z1))))) (fun w => over_rm hx1 hz1 w) rfl (by kernel_rfl) rfl (by kernel_rfl) (by kernel_rfl) (by kernel_rfl) (fun w => by kernel_rfl)) ?_
    refine ok_cons (ok_index (x1 := .agg (ai 22 (dg (mu x1 (inv z1))))) (u1 := .int .i64 ((0 : Nat) : Int)) (v := .int .i64 (((dg (mu x1 (inv z1)) 0) : Nat) : Int)) (ix_r (n := (mu x1 (inv z1)))) rfl (by kernel_rfl) rfl (by kernel_rfl) (by kernel_rfl) (by kernel_rfl) (by kernel_rfl) (by kernel_rfl)) ?_
    refine ok_cons (ok_bin (x1 := .int .i64 (((dg (mu x1 (inv z1)) 0) : Nat) : Int)) (u1 := .int .i64 ((2 : Nat) : Int)) (v := .int .i64 ((((dg (mu x1 (inv z1)) 0) % 2) : Nat) : Int)) (re_i (m := (dg (mu x1 (inv z1)) 0)) (n := 2) (by decide)) rfl (by kernel_rfl) rfl (by kernel_rfl) (by kernel_rfl) (by kernel_rfl) (by kernel_rfl) (by kernel_rfl)) ?_
    refine ok_cons (ok_bin (x1 := .int .i64 ((((dg (mu x1 (inv z1)) 0) % 2) : Nat) : Int)) (u1 := .int .i64 ((1 : Nat) : Int)) (v := .bool false) (eq_i (m := ((((dg (mu x1 (inv z1)) 0) % 2) : Nat) : Int)) (n := ((1 : Nat) : Int)) (decide_eq_false (by omega))) rfl (by kernel_rfl) rfl (by kernel_rfl) (by kernel_rfl) (by kernel_rfl) (by kernel_rfl) (by kernel_rfl)) ?_
    exact ok_nil
  clear h; intro β a w h
  refine sym_then ?_
  refine sym_cond_f h (by kernel_rfl) (by kernel_rfl) ?_
  refine wp_skip ?_
  refine sym_then ?_
  refine sym_seq ?_
  refine St.region h [.inl (.agg (cis [x1, y1, z1, t1])), .inr (0, 0), .inr (1, 0), .inr (2, 0), .inr (0, 22), .inl (.agg (ai 22 (dg y1))), .inr (0, 44), .inl (.agg (ai 22 (dg z1))), .inl (.agg (ai 22 (dg (mu y1 (inv z1))))), .inl (.agg (ck (kb (mu y1 (inv z1))))), .inr (0, 0), .inl (.agg (ai 22 (dg x1))), .inr (0, 44), .inl (.agg (ai 22 (dg z1))), .inl (.agg (ai 22 (dg (mu x1 (inv z1))))), .inl (.int .i64 (((dg (mu x1 (inv z1)) 0) : Nat) : Int)), .inl (.int .i64 ((((dg (mu x1 (inv z1)) 0) % 2) : Nat) : Int)), .inl (.bool false), uu, uu, uu, uu, .inl (.agg (ck (kb (mu y1 (inv z1)))))] [(cis [x1, y1, z1, t1], 37), (ck (kb (mu y1 (inv z1))), 23), (ck (kb (mu y1 (inv z1))), 23)] [(cis [x1, y1, z1, t1], 37), (ck (fun _ => 0), 23), (ck (kb (mu y1 (inv z1))), 23)] [#[], ck (kb (mu y1 (inv z1))), #[]] [⟨none, none, some 2, false⟩, ⟨none, some 1, none, false⟩] (by kernel_rfl) (by kernel_rfl) (by kernel_rfl) (by kernel_rfl) (by kernel_rfl) (by kernel_rfl) (by kernel_rfl) (by kernel_rfl) ?_ ?_
  · refine ok_cons (ok_load (b := 2) (off := 0) (c := ck (kb (mu y1 (inv z1)))) (v := .agg (ck (kb (mu y1 (inv z1))))) (ldK (b := (kb (mu y1 (inv z1)))) 23) rfl (by kernel_rfl) rfl (by kernel_rfl) (by kernel_rfl) (by kernel_rfl)) ?_
    refine ok_cons (ok_store (b := 1) (off := 0) (u := .agg (ck (kb (mu y1 (inv z1))))) (c := ck (fun _ => 0)) (n := ck (kb (mu y1 (inv z1)))) (stK (F := (kb (mu y1 (inv z1)))) (c := ck (fun _ => 0)) 23 (ck_size _)) rfl (by kernel_rfl) rfl (by kernel_rfl) (by kernel_rfl) (by kernel_rfl) (by kernel_rfl) (by kernel_rfl)) ?_
    exact ok_nil
  clear h; intro β a w h
  refine sym_then ?_
  refine wp_ret ?_
  exact sym_retc (b := 1) (t0 := 23) (c := ck (kb (mu y1 (inv z1)))) h Try.results13 (by kernel_rfl) (by kernel_rfl) (by kernel_rfl) Try.underlying23 rfl (by rw [ck_size]; kernel_rfl) (fun hb => ⟨rfl, hb⟩)

set_option maxHeartbeats 4000000 in
theorem rkey_o {x1 y1 z1 t1 : Nat} (hx1 : x1 < pp) (hy1 : y1 < pp) (hz1 : z1 < pp) (hev : (mu x1 (inv z1)) % 2 = 1) (W0 : World) : Calls Try.prog 13 #[.agg (cis [x1, y1, z1, t1])] W0 fun e w' => e = .returned (.agg (ck (updN (kb (mu y1 (inv z1))) 31 (kb (mu y1 (inv z1)) 31 + 128)))) ∧ Below W0.heap.size W0 w' := by
  have g1 := dg_par4 (mu x1 (inv z1))
  have g2 := kb_top (mu_lt y1 (inv z1))
  refine sym_enter Try.func13 Try.ntmps13 rfl [.inl (.agg (cis [x1, y1, z1, t1])), uu, uu, uu, uu, uu, uu, uu, uu, uu, uu, uu, uu, uu, uu, uu, uu, uu, uu, uu, uu, uu, uu] (by kernel_rfl) (by kernel_rfl) ?_
  intro β a h
  refine sym_seq ?_
  refine St.region h [.inl (.agg (cis [x1, y1, z1, t1])), .inr (0, 0), .inr (1, 0), uu, uu, uu, uu, uu, uu, uu, uu, uu, uu, uu, uu, uu, uu, uu, uu, uu, uu, uu, uu] [(cis [x1, y1, z1, t1], 37), (ck (fun _ => 0), 23)] [(cis [x1, y1, z1, t1], 37), (ck (fun _ => 0), 23)] [#[], #[]] [⟨some 0, none, none, false⟩, ⟨some 1, none, none, false⟩] (by kernel_rfl) (by kernel_rfl) (by kernel_rfl) (by kernel_rfl) (by kernel_rfl) (by kernel_rfl) (by kernel_rfl) (by kernel_rfl) ?_ ?_
  · refine ok_cons (ok_box (b := 0) (u := .agg (cis [x1, y1, z1, t1])) (bxR (a := x1) (b := y1) (c := z1) (d := t1)) rfl (by kernel_rfl) rfl (by kernel_rfl) (by kernel_rfl) (by kernel_rfl) (by kernel_rfl)) ?_
    refine ok_cons (ok_alloc (b := 1) alK rfl (by kernel_rfl) rfl (by kernel_rfl) (by kernel_rfl)) ?_
    exact ok_nil
  clear h; intro β a w h
  refine sym_then ?_
  refine sym_seq ?_
  refine St.region h [.inl (.agg (cis [x1, y1, z1, t1])), .inr (0, 0), .inr (1, 0), .inr (2, 0), .inr (0, 22), .inl (.agg (ai 22 (dg y1))), .inr (0, 44), .inl (.agg (ai 22 (dg z1))), .inl (.agg (ai 22 (dg (mu y1 (inv z1))))), .inl (.agg (ck (kb (mu y1 (inv z1))))), uu, uu, uu, uu, uu, uu, uu, uu, uu, uu, uu, uu, uu] [(cis [x1, y1, z1, t1], 37), (ck (fun _ => 0), 23), (ck (kb (mu y1 (inv z1))), 23)] [(cis [x1, y1, z1, t1], 37), (ck (fun _ => 0), 23), (ck (fun _ => 0), 23)] [#[], #[], ck (kb (mu y1 (inv z1)))] [nn, ⟨none, none, some 0, false⟩, nn, ⟨none, none, some 0, false⟩, nn, nn, ⟨some 2, none, none, false⟩, ⟨none, some 2, none, false⟩] (by kernel_rfl) (by kernel_rfl) (by kernel_rfl) (by kernel_rfl) (by kernel_rfl) (by kernel_rfl) (by kernel_rfl) (by kernel_rfl) ?_ ?_
  · refine ok_cons (ok_faddr (b := 0) (off := 0) (off' := 22) (fun w q => by kernel_rfl) rfl (by kernel_rfl) rfl (by kernel_rfl) (by kernel_rfl)) ?_
    refine ok_cons (ok_load (b := 0) (off := 22) (c := cis [x1, y1, z1, t1]) (v := .agg (ai 22 (dg y1))) (ld_cis (l := [x1, y1, z1, t1]) (k := 1) (n := y1) 37 rfl) rfl (by kernel_rfl) rfl (by kernel_rfl) (by kernel_rfl) (by kernel_rfl)) ?_
    refine ok_cons (ok_faddr (b := 0) (off := 0) (off' := 44) (fun w q => by kernel_rfl) rfl (by kernel_rfl) rfl (by kernel_rfl) (by kernel_rfl)) ?_
    refine ok_cons (ok_load (b := 0) (off := 44) (c := cis [x1, y1, z1, t1]) (v := .agg (ai 22 (dg z1))) (ld_cis (l := [x1, y1, z1, t1]) (k := 2) (n := z1) 37 rfl) rfl (by kernel_rfl) rfl (by kernel_rfl) (by kernel_rfl) (by kernel_rfl)) ?_
    refine ok_cons (ok_call (vs := #[.agg (ai 22 (dg y1)), .agg (ai 22 (dg z1))]) (R := .agg (ai 22 (dg (mu y1 (inv z1))))) (fun w => over_rm hy1 hz1 w) rfl (by kernel_rfl) rfl (by kernel_rfl) (by kernel_rfl) (by kernel_rfl) (fun w => by kernel_rfl)) ?_
    refine ok_cons (ok_call (vs := #[.agg (ai 22 (dg (mu y1 (inv z1))))]) (R := .agg (ck (kb (mu y1 (inv z1))))) (fun w => key_rm (mu_lt _ _) w) rfl (by kernel_rfl) rfl (by kernel_rfl) (by kernel_rfl) (by kernel_rfl) (fun w => by kernel_rfl)) ?_
    refine ok_cons (ok_alloc (b := 2) alK rfl (by kernel_rfl) rfl (by kernel_rfl) (by kernel_rfl)) ?_
    refine ok_cons (ok_store (b := 2) (off := 0) (u := .agg (ck (kb (mu y1 (inv z1))))) (c := ck (fun _ => 0)) (n := ck (kb (mu y1 (inv z1)))) (stK (F := (kb (mu y1 (inv z1)))) (c := ck (fun _ => 0)) 23 (ck_size _)) rfl (by kernel_rfl) rfl (by kernel_rfl) (by kernel_rfl) (by kernel_rfl) (by kernel_rfl) (by kernel_rfl)) ?_
    exact ok_nil
  clear h; intro β a w h
  refine sym_then ?_
  refine sym_seq ?_
  refine sym_seq ?_
  refine St.region h [.inl (.agg (cis [x1, y1, z1, t1])), .inr (0, 0), .inr (1, 0), .inr (2, 0), .inr (0, 22), .inl (.agg (ai 22 (dg y1))), .inr (0, 44), .inl (.agg (ai 22 (dg z1))), .inl (.agg (ai 22 (dg (mu y1 (inv z1))))), .inl (.agg (ck (kb (mu y1 (inv z1))))), .inr (0, 0), .inl (.agg (ai 22 (dg x1))), .inr (0, 44), .inl (.agg (ai 22 (dg z1))), .inl (.agg (ai 22 (dg (mu x1 (inv z1))))), .inl (.int .i64 (((dg (mu x1 (inv z1)) 0) : Nat) : Int)), .inl (.int .i64 ((((dg (mu x1 (inv z1)) 0) % 2) : Nat) : Int)), .inl (.bool true), uu, uu, uu, uu, uu] [(cis [x1, y1, z1, t1], 37), (ck (fun _ => 0), 23), (ck (kb (mu y1 (inv z1))), 23)] [(cis [x1, y1, z1, t1], 37), (ck (fun _ => 0), 23), (ck (kb (mu y1 (inv z1))), 23)] [#[], #[], #[]] [nn, ⟨none, none, some 0, false⟩, nn, ⟨none, none, some 0, false⟩, nn, nn, nn, nn] (by kernel_rfl) (by kernel_rfl) (by kernel_rfl) (by kernel_rfl) (by kernel_rfl) (by kernel_rfl) (by kernel_rfl) (by kernel_rfl) ?_ ?_
  · refine ok_cons (ok_faddr (b := 0) (off := 0) (off' := 0) (fun w q => by kernel_rfl) rfl (by kernel_rfl) rfl (by kernel_rfl) (by kernel_rfl)) ?_
    refine ok_cons (ok_load (b := 0) (off := 0) (c := cis [x1, y1, z1, t1]) (v := .agg (ai 22 (dg x1))) (ld_cis (l := [x1, y1, z1, t1]) (k := 0) (n := x1) 37 rfl) rfl (by kernel_rfl) rfl (by kernel_rfl) (by kernel_rfl) (by kernel_rfl)) ?_
    refine ok_cons (ok_faddr (b := 0) (off := 0) (off' := 44) (fun w q => by kernel_rfl) rfl (by kernel_rfl) rfl (by kernel_rfl) (by kernel_rfl)) ?_
    refine ok_cons (ok_load (b := 0) (off := 44) (c := cis [x1, y1, z1, t1]) (v := .agg (ai 22 (dg z1))) (ld_cis (l := [x1, y1, z1, t1]) (k := 2) (n := z1) 37 rfl) rfl (by kernel_rfl) rfl (by kernel_rfl) (by kernel_rfl) (by kernel_rfl)) ?_
    refine ok_cons (ok_call (vs := #[.agg (ai 22 (dg x1)), .agg (ai 22 (dg z1))]) (R := .agg (ai 22 (dg (mu x1 (inv z1))))) (fun w => over_rm hx1 hz1 w) rfl (by kernel_rfl) rfl (by kernel_rfl) (by kernel_rfl) (by kernel_rfl) (fun w => by kernel_rfl)) ?_
    refine ok_cons (ok_index (x1 := .agg (ai 22 (dg (mu x1 (inv z1))))) (u1 := .int .i64 ((0 : Nat) : Int)) (v := .int .i64 (((dg (mu x1 (inv z1)) 0) : Nat) : Int)) (ix_r (n := (mu x1 (inv z1)))) rfl (by kernel_rfl) rfl (by kernel_rfl) (by kernel_rfl) (by kernel_rfl) (by kernel_rfl) (by kernel_rfl)) ?_
    refine ok_cons (ok_bin (x1 := .int .i64 (((dg (mu x1 (inv z1)) 0) : Nat) : Int)) (u1 := .int .i64 ((2 : Nat) : Int)) (v := .int .i64 ((((dg (mu x1 (inv z1)) 0) % 2) : Nat) : Int)) (re_i (m := (dg (mu x1 (inv z1)) 0)) (n := 2) (by decide)) rfl (by kernel_rfl) rfl (by kernel_rfl) (by kernel_rfl) (by kernel_rfl) (by kernel_rfl) (by kernel_rfl)) ?_
    refine ok_cons (ok_bin (x1 := .int .i64 ((((dg (mu x1 (inv z1)) 0) % 2) : Nat) : Int)) (u1 := .int .i64 ((1 : Nat) : Int)) (v := .bool true) (eq_i (m := ((((dg (mu x1 (inv z1)) 0) % 2) : Nat) : Int)) (n := ((1 : Nat) : Int)) (decide_eq_true (by omega))) rfl (by kernel_rfl) rfl (by kernel_rfl) (by kernel_rfl) (by kernel_rfl) (by kernel_rfl) (by kernel_rfl)) ?_
    exact ok_nil
  clear h; intro β a w h
  refine sym_then ?_
  refine sym_cond_t h (by kernel_rfl) (by kernel_rfl) ?_
  refine St.region h [.inl (.agg (cis [x1, y1, z1, t1])), .inr (0, 0), .inr (1, 0), .inr (2, 0), .inr (0, 22), .inl (.agg (ai 22 (dg y1))), .inr (0, 44), .inl (.agg (ai 22 (dg z1))), .inl (.agg (ai 22 (dg (mu y1 (inv z1))))), .inl (.agg (ck (kb (mu y1 (inv z1))))), .inr (0, 0), .inl (.agg (ai 22 (dg x1))), .inr (0, 44), .inl (.agg (ai 22 (dg z1))), .inl (.agg (ai 22 (dg (mu x1 (inv z1))))), .inl (.int .i64 (((dg (mu x1 (inv z1)) 0) : Nat) : Int)), .inl (.int .i64 ((((dg (mu x1 (inv z1)) 0) % 2) : Nat) : Int)), .inl (.bool true), .inr (2, 31), .inl (.int .u8 ((((kb (mu y1 (inv z1))) 31) : Nat) : Int)), .inl (.int .u8 (((((kb (mu y1 (inv z1))) 31) + 128) : Nat) : Int)), .inr (2, 31), uu] [(cis [x1, y1, z1, t1], 37), (ck (fun _ => 0), 23), (ck (updN (kb (mu y1 (inv z1))) 31 (((kb (mu y1 (inv z1))) 31) + 128)), 23)] [(cis [x1, y1, z1, t1], 37), (ck (fun _ => 0), 23), (ck (kb (mu y1 (inv z1))), 23)] [#[], #[], ck (updN (kb (mu y1 (inv z1))) 31 (((kb (mu y1 (inv z1))) 31) + 128))] [nn, ⟨none, none, some 2, false⟩, nn, nn, ⟨none, some 2, none, false⟩] (by kernel_rfl) (by kernel_rfl) (by kernel_rfl) (by kernel_rfl) (by kernel_rfl) (by kernel_rfl) (by kernel_rfl) (by kernel_rfl) ?_ ?_
  · refine ok_cons (ok_iaddr (b := 2) (off := 0) (off' := 31) (u := .int .i64 ((31 : Nat) : Int)) (ixK (i := 31) (by omega)) rfl (by kernel_rfl) rfl (by kernel_rfl) (by kernel_rfl) (by kernel_rfl) (by kernel_rfl)) ?_
    refine ok_cons (ok_load (b := 2) (off := 31) (c := ck (kb (mu y1 (inv z1)))) (v := .int .u8 ((((kb (mu y1 (inv z1))) 31) : Nat) : Int)) (ld_k (F := (kb (mu y1 (inv z1)))) (i := 31) (t0 := 23) (by omega)) rfl (by kernel_rfl) rfl (by kernel_rfl) (by kernel_rfl) (by kernel_rfl)) ?_
    refine ok_cons (ok_bin (x1 := .int .u8 ((((kb (mu y1 (inv z1))) 31) : Nat) : Int)) (u1 := .int .u8 ((128 : Nat) : Int)) (v := .int .u8 (((((kb (mu y1 (inv z1))) 31) + 128) : Nat) : Int)) (ad_b (m := ((kb (mu y1 (inv z1))) 31)) (n := 128) (by omega)) rfl (by kernel_rfl) rfl (by kernel_rfl) (by kernel_rfl) (by kernel_rfl) (by kernel_rfl) (by kernel_rfl)) ?_
    refine ok_cons (ok_iaddr (b := 2) (off := 0) (off' := 31) (u := .int .i64 ((31 : Nat) : Int)) (ixK (i := 31) (by omega)) rfl (by kernel_rfl) rfl (by kernel_rfl) (by kernel_rfl) (by kernel_rfl) (by kernel_rfl)) ?_
    refine ok_cons (ok_store (b := 2) (off := 31) (u := .int .u8 (((((kb (mu y1 (inv z1))) 31) + 128) : Nat) : Int)) (c := ck (kb (mu y1 (inv z1)))) (n := ck (updN (kb (mu y1 (inv z1))) 31 (((kb (mu y1 (inv z1))) 31) + 128))) (st_k (F := (kb (mu y1 (inv z1)))) (i := 31) (v := (((kb (mu y1 (inv z1))) 31) + 128)) (t0 := 23) (by omega)) rfl (by kernel_rfl) rfl (by kernel_rfl) (by kernel_rfl) (by kernel_rfl) (by kernel_rfl) (by kernel_rfl)) ?_
    exact ok_nil
  clear h; intro β a w h
  refine sym_then ?_
  refine sym_seq ?_
  refine St.region h [.inl (.agg (cis [x1, y1, z1, t1])), .inr (0, 0), .inr (1, 0), .inr (2, 0), .inr (0, 22), .inl (.agg (ai 22 (dg y1))), .inr (0, 44), .inl (.agg (ai 22 (dg z1))), .inl (.agg (ai 22 (dg (mu y1 (inv z1))))), .inl (.agg (ck (kb (mu y1 (inv z1))))), .inr (0, 0), .inl (.agg (ai 22 (dg x1))), .inr (0, 44), .inl (.agg (ai 22 (dg z1))), .inl (.agg (ai 22 (dg (mu x1 (inv z1))))), .inl (.int .i64 (((dg (mu x1 (inv z1)) 0) : Nat) : Int)), .inl (.int .i64 ((((dg (mu x1 (inv z1)) 0) % 2) : Nat) : Int)), .inl (.bool true), .inr (2, 31), .inl (.int .u8 ((((kb (mu y1 (inv z1))) 31) : Nat) : Int)), .inl (.int .u8 (((((kb (mu y1 (inv z1))) 31) + 128) : Nat) : Int)), .inr (2, 31), .inl (.agg (ck (updN (kb (mu y1 (inv z1))) 31 (((kb (mu y1 (inv z1))) 31) + 128))))] [(cis [x1, y1, z1, t1], 37), (ck (updN (kb (mu y1 (inv z1))) 31 (((kb (mu y1 (inv z1))) 31) + 128)), 23), (ck (updN (kb (mu y1 (inv z1))) 31 (((kb (mu y1 (inv z1))) 31) + 128)), 23)] [(cis [x1, y1, z1, t1], 37), (ck (fun _ => 0), 23), (ck (updN (kb (mu y1 (inv z1))) 31 (((kb (mu y1 (inv z1))) 31) + 128)), 23)] [#[], ck (updN (kb (mu y1 (inv z1))) 31 (((kb (mu y1 (inv z1))) 31) + 128)), #[]] [⟨none, none, some 2, false⟩, ⟨none, some 1, none, false⟩] (by kernel_rfl) (by kernel_rfl) (by kernel_rfl) (by kernel_rfl) (by kernel_rfl) (by kernel_rfl) (by kernel_rfl) (by kernel_rfl) ?_ ?_
  · refine ok_cons (ok_load (b := 2) (off := 0) (c := ck (updN (kb (mu y1 (inv z1))) 31 (((kb (mu y1 (inv z1))) 31) + 128))) (v := .agg (ck (updN (kb (mu y1 (inv z1))) 31 (((kb (mu y1 (inv z1))) 31) + 128)))) (ldK (b := (updN (kb (mu y1 (inv z1))) 31 (((kb (mu y1 (inv z1))) 31) + 128))) 23) rfl (by kernel_rfl) rfl (by kernel_rfl) (by kernel_rfl) (by kernel_rfl)) ?_
    refine ok_cons (ok_store (b := 1) (off := 0) (u := .agg (ck (updN (kb (mu y1 (inv z1))) 31 (((kb (mu y1 (inv z1))) 31) + 128)))) (c := ck (fun _ => 0)) (n := ck (updN (kb (mu y1 (inv z1))) 31 (((kb (mu y1 (inv z1))) 31) + 128))) (stK (F := (updN (kb (mu y1 (inv z1))) 31 (((kb (mu y1 (inv z1))) 31) + 128))) (c := ck (fun _ => 0)) 23 (ck_size _)) rfl (by kernel_rfl) rfl (by kernel_rfl) (by kernel_rfl) (by kernel_rfl) (by kernel_rfl) (by kernel_rfl)) ?_
    exact ok_nil
  clear h; intro β a w h
  refine sym_then ?_
  refine wp_ret ?_
  exact sym_retc (b := 1) (t0 := 23) (c := ck (updN (kb (mu y1 (inv z1))) 31 (((kb (mu y1 (inv z1))) 31) + 128))) h Try.results13 (by kernel_rfl) (by kernel_rfl) (by kernel_rfl) Try.underlying23 rfl (by rw [ck_size]; kernel_rfl) (fun hb => ⟨rfl, hb⟩)

end Go.Proofs.Ytgiemldmphbolaa

/- X8, P1, P2, Crv1, Crv2, Crv3, P3, laid together. -/
import Derived.Test.YtgiemldmphbolaaG1
import Derived.Test.YtgiemldmphbolaaG4
namespace Go.Proofs.Ytgiemldmphbolaa
open Go.RowKit

section
variable {P : Program} {W : World} {ops : Array Oper} {s0 s1 : List SV} {z : List Blk} {y : List (Array Value)} {o : Oper}
theorem ok_mkf {f : Fn} {xs : Array Operand} {vs : Array Value} {d : Tmp} (ho : o.op = .makeFunc f xs #[]) (hw : wantF ops s1 o = true) (hd : o.dst = some d) (hp : xs.all (plainB s1) = true) (hv : xs.map (evS s1) = vs) (hs : slot s1 d = .inl (.func f vs #[])) : Ok1 P W ops s0 s1 z y o ⟨none, none, none, false⟩ := by
  refine ok_val hw hd hs (fun β a w ha => ?_)
  have hmap : xs.map a.eval = vs := by
    rw [← hv]
    apply Array.map_congr_left
    intro x hx
    refine ev_plain ha ?_ (Array.all_eq_true_iff_forall_mem.1 hp x hx)
    rw [ho]; simp [Op.operands, hx]
  simp [execOp, ho, hmap, Instr.makeFunc]
theorem ok_callv {f : FuncId} {t : Tmp} {first : Array Value} {args : Array Operand} {tys : Array TypeId} {ws vs : Array Value} {R : Value} {d : Tmp} (hc : ∀ w, Calls P f vs w fun e w' => e = .returned R ∧ Below w.heap.size w w') (ho : o.op = .call { callee := .value (.tmp t), args := args, argTypes := tys }) (hw : wantF ops s1 o = true) (hd : o.dst = some d) (hs : slot s1 d = .inl R)
    (hf : slot s1 t = .inl (.func (.func f) first #[])) (hv : args.map (evS s1) = ws) (hp : args.all (plainB s1) = true) (hvs : first ++ ws = vs) (he : ∀ w, (callFunc f vs).run P w = .ok (.enter f vs) w) :
    Ok1 P W ops s0 s1 z y o ⟨none, none, none, false⟩ := by
  refine ok_quiet hw hd hs (fun β a w ha K Q hK => ?_)
  have hmap : args.map a.eval = ws := by
    rw [← hv]
    apply Array.map_congr_left
    intro x hx
    refine ev_plain ha ?_ (Array.all_eq_true_iff_forall_mem.1 hp x hx)
    rw [ho]; simp [Op.operands, Call.operands, hx]
  have hev : a.eval (.tmp t) = .func (.func f) first #[] := by
    rw [ha t (mem_tmps (by rw [ho]; simp [Op.operands, Call.operands])), hf]; rfl
  unfold Oper.wp execOp
  simp only [ho, resolve, invoke, Sem.run_bind, hmap, hev, Deferred.ofValue, Sem.run_pure, Result.andThen_ok, Array.append_empty, hvs, he, Oper.upon_enter]
  exact (hc w).mono (by rintro e w' ⟨rfl, hb⟩; exact hK w' hb)
end

/-- Cells of several elements, one behind the other. -/
def ces (l : List Nat) : Array Value := (l.flatMap fun n => (cs (dig n)).toList).toArray
theorem ces_size (l : List Nat) : (ces l).size = 4 * l.length := by
  unfold ces
  simp only [List.size_toArray]
  induction l with
  | nil => rfl
  | cons n l ih => rw [List.flatMap_cons, List.length_append, ih]; simp; omega
theorem ces_get : ∀ (l : List Nat) (k n j : Nat), l[k]? = some n → j < 4 → (ces l)[4 * k + j]? = (cs (dig n))[j]? := by
  intro l
  induction l with
  | nil => intro k n j h; simp at h
  | cons m l ih =>
    intro k n j h hj
    unfold ces at *
    simp only [List.getElem?_toArray, List.flatMap_cons]
    cases k with
    | zero =>
      simp at h; subst h
      rw [List.getElem?_append_left (by simp; omega)]
      simp
    | succ k =>
      rw [List.getElem?_append_right (by simp; omega)]
      have := ih k n j (by simpa using h) hj
      simp only [List.getElem?_toArray] at this
      rw [← this]
      congr 1
      simp; omega
theorem ces_one (l : List Nat) : (ces l).all (·.oneCell') = true := by
  rw [Array.all_eq_true_iff_forall_mem]
  intro v hv
  unfold ces at hv
  simp only [List.mem_toArray, List.mem_flatMap] at hv
  obtain ⟨n, _, h⟩ := hv
  have := Array.all_eq_true_iff_forall_mem.1 (cs_one (dig n)) v (by simpa using h)
  exact this
theorem ld_ces {l : List Nat} {k n : Nat} (t0 : TypeId) (hk : l[k]? = some n) (w : World) (q : Nat) (h : w.heap[q]? = some (.cells (ces l) t0 (0, 0))) : (Instr.loadAt 29 (.pointer (some ⟨q, 4 * k, none⟩))).run Try.prog w = .ok (el (dig n)) w := by
  have c0 : w.cell? ⟨q, 4 * k, none⟩ = some (.int .u64 (dig n 0)) := by rw [cell_of_row _ _ _ _ _ _ h]; exact ces_get l k n 0 hk (by omega)
  have c1 : w.cell? ⟨q, 4 * k + 1, none⟩ = some (.int .u64 (dig n 1)) := by rw [cell_of_row _ _ _ _ _ _ h]; exact ces_get l k n 1 hk (by omega)
  have c2 : w.cell? ⟨q, 4 * k + 2, none⟩ = some (.int .u64 (dig n 2)) := by rw [cell_of_row _ _ _ _ _ _ h]; exact ces_get l k n 2 hk (by omega)
  have c3 : w.cell? ⟨q, 4 * k + 3, none⟩ = some (.int .u64 (dig n 3)) := by rw [cell_of_row _ _ _ _ _ _ h]; exact ces_get l k n 3 hk (by omega)
  simp [Instr.loadAt, Instr.sureAddr, go_sem, c0, c1, c2, c3]
end Go.Proofs.Ytgiemldmphbolaa

namespace Go.Proofs.Ytgiemldmphbolaa
open Go.RowKit

theorem ldP {a b : Nat} (t0 : TypeId) (w : World) (q : Nat) (h : w.heap[q]? = some (.cells (ces [a, b]) t0 (0, 0))) : (Instr.loadAt 31 (.pointer (some ⟨q, 0, none⟩))).run Try.prog w = .ok (.agg (ces [a, b])) w :=
  ld_row (c := ces [a, b]) Try.underlying31 rfl (by rw [ces_size]; kernel_rfl) w q h
theorem stP {a b : Nat} {c : Array Value} (t0 : TypeId) (hc : c.size = 8) (w : World) (q : Nat) (h : w.heap[q]? = some (.cells c t0 (0, 0))) : (Instr.storeAt 31 (.pointer (some ⟨q, 0, none⟩)) (.agg (ces [a, b]))).run Try.prog w = .ok () (w.setRow q (ces [a, b])) :=
  st_row (n := ces [a, b]) (by rw [ces_size]; kernel_rfl) (by rw [hc, ces_size]; rfl) (ces_one _) w q h
theorem bxP {a b : Nat} (w : World) : (Instr.box 31 (.agg (ces [a, b]))).run Try.prog w = .ok (.pointer (some ⟨w.heap.size, 0, none⟩)) (w.alloc (.cells (ces [a, b]) 31)) := bx_agg w
theorem alP (w : World) : (Instr.alloc 31 true (.tuple #[])).run Try.prog w = .ok (.pointer (some ⟨w.heap.size, 0, none⟩)) (w.alloc (.cells (ces [0, 0]) 31)) := by
  simp [Instr.alloc, go_sem]
  rfl
theorem bdP0 (w : World) : (Instr.build 31 #[]).run Try.prog w = .ok (.agg (ces [0, 0])) w := by kernel_rfl
theorem bdP {a b : Nat} (w : World) : (Instr.build 31 #[(0, el (dig a)), (1, el (dig b))]).run Try.prog w = .ok (.agg (ces [a, b])) w := by kernel_rfl
theorem ldS {a b c d : Nat} (t0 : TypeId) (w : World) (q : Nat) (h : w.heap[q]? = some (.cells (ces [a, b, c, d]) t0 (0, 0))) : (Instr.loadAt 78 (.pointer (some ⟨q, 0, none⟩))).run Try.prog w = .ok (.agg (ces [a, b, c, d])) w :=
  ld_row (c := ces [a, b, c, d]) Try.underlying78 rfl (by rw [ces_size]; kernel_rfl) w q h
theorem stS {a b c d : Nat} {e : Array Value} (t0 : TypeId) (hc : e.size = 16) (w : World) (q : Nat) (h : w.heap[q]? = some (.cells e t0 (0, 0))) : (Instr.storeAt 78 (.pointer (some ⟨q, 0, none⟩)) (.agg (ces [a, b, c, d]))).run Try.prog w = .ok () (w.setRow q (ces [a, b, c, d])) :=
  st_row (n := ces [a, b, c, d]) (by rw [ces_size]; kernel_rfl) (by rw [hc, ces_size]; rfl) (ces_one _) w q h
theorem bxS {a b c d : Nat} (w : World) : (Instr.box 78 (.agg (ces [a, b, c, d]))).run Try.prog w = .ok (.pointer (some ⟨w.heap.size, 0, none⟩)) (w.alloc (.cells (ces [a, b, c, d]) 78)) := bx_agg w
theorem alS (w : World) : (Instr.alloc 78 true (.tuple #[])).run Try.prog w = .ok (.pointer (some ⟨w.heap.size, 0, none⟩)) (w.alloc (.cells (ces [0, 0, 0, 0]) 78)) := by
  simp [Instr.alloc, go_sem]
  rfl
theorem bdS {a b c d : Nat} (w : World) : (Instr.build 78 #[(0, el (dig a)), (1, el (dig b)), (2, el (dig c)), (3, el (dig d))]).run Try.prog w = .ok (.agg (ces [a, b, c, d])) w := by kernel_rfl
theorem bxL {a : Nat} (w : World) : (Instr.box 75 (.agg (ces [a]))).run Try.prog w = .ok (.pointer (some ⟨w.heap.size, 0, none⟩)) (w.alloc (.cells (ces [a]) 75)) := bx_agg w
theorem stL {a : Nat} {e : Array Value} (t0 : TypeId) (hc : e.size = 4) (w : World) (q : Nat) (h : w.heap[q]? = some (.cells e t0 (0, 0))) : (Instr.storeAt 75 (.pointer (some ⟨q, 0, none⟩)) (.agg (ces [a]))).run Try.prog w = .ok () (w.setRow q (ces [a])) :=
  st_row (n := ces [a]) (by rw [ces_size]; kernel_rfl) (by rw [hc, ces_size]; rfl) (ces_one _) w q h
theorem alL (w : World) : (Instr.alloc 75 true (.tuple #[])).run Try.prog w = .ok (.pointer (some ⟨w.heap.size, 0, none⟩)) (w.alloc (.cells (ces [0]) 75)) := by
  simp [Instr.alloc, go_sem]
  rfl
theorem bdL {a : Nat} (w : World) : (Instr.build 75 #[(0, el (dig a))]).run Try.prog w = .ok (.agg (ces [a])) w := by kernel_rfl

/-- The contracts, each answer under a name. -/
theorem plus_v {m n : Nat} (hm : m < pp) (hn : n < pp) : ∃ r : Nat, Hid (r = (m + n) % pp) ∧ r < pp ∧ ∀ w, Calls Try.prog 62 #[el (dig m), el (dig n)] w fun e w' => e = .returned (el (dig r)) ∧ Below w.heap.size w w' :=
  ⟨_, hide1 rfl, mod_pp _, plus_d hm hn⟩
theorem minus_v {m n : Nat} (hm : m < pp) (hn : n < pp) : ∃ r : Nat, Hid (r = (m + (pp - n)) % pp) ∧ r < pp ∧ ∀ w, Calls Try.prog 32 #[el (dig m), el (dig n)] w fun e w' => e = .returned (el (dig r)) ∧ Below w.heap.size w w' :=
  ⟨_, hide1 rfl, mod_pp _, minus_d hm hn⟩
theorem times_v {m n : Nat} (hm : m < pp) (hn : n < pp) : ∃ r : Nat, Hid (r = m * n % pp) ∧ r < pp ∧ ∀ w, Calls Try.prog 60 #[el (dig m), el (dig n)] w fun e w' => e = .returned (el (dig r)) ∧ Below w.heap.size w w' :=
  ⟨_, hide1 rfl, mod_pp _, times_d hm hn⟩
/-- A number's inverse; of 0 it is 0. -/
def inv (n : Nat) : Nat := pmod n pp 255 (pp - 2)
theorem inv_pow_eq {n k : Nat} (hk : k = 57896044618658097711785492504343953926634992332820282019728792003956564819947) : n ^ k % pp = inv n := by
  have e : pp - 2 = k := by rw [hk]; decide +kernel
  have h : k < 2 ^ 255 := by rw [hk]; decide +kernel
  unfold inv
  rw [e, pmod_eq n pp 255 k h]
theorem inv_lt (n : Nat) : inv n < pp := by
  obtain ⟨k, hk⟩ : ∃ k : Nat, k = 57896044618658097711785492504343953926634992332820282019728792003956564819947 := ⟨_, rfl⟩
  rw [← inv_pow_eq hk]; exact mod_pp _
theorem inv_mul {n : Nat} (hn : n < pp) (h : n ≠ 0) : n * inv n % pp = 1 := by
  obtain ⟨k, hk⟩ : ∃ k : Nat, k = 57896044618658097711785492504343953926634992332820282019728792003956564819947 := ⟨_, rfl⟩
  rw [← inv_pow_eq hk]; exact inv_one hn h hk
theorem over_i {m n : Nat} (hm : m < pp) (hn : n < pp) (w : World) : Calls Try.prog 52 #[el (dig m), el (dig n)] w fun e w' => e = .returned (el (dig (m * inv n % pp))) ∧ Below w.heap.size w w' := by
  obtain ⟨k, hk, c⟩ := over_d hm hn
  have := c w
  rwa [inv_pow_eq hk.out] at this
theorem over_v {m n : Nat} (hm : m < pp) (hn : n < pp) : ∃ r : Nat, Hid (r = m * inv n % pp) ∧ r < pp ∧ ∀ w, Calls Try.prog 52 #[el (dig m), el (dig n)] w fun e w' => e = .returned (el (dig r)) ∧ Below w.heap.size w w' :=
  ⟨_, hide1 rfl, mod_pp _, over_i hm hn⟩

/-- A key that is written out. -/
def kl (l : List Nat) (i : Nat) : Nat := l.getD i 0
theorem kl_lt {l : List Nat} (h : l.all (fun n => Nat.blt n 256) = true) (i : Nat) : kl l i < 256 := by
  unfold kl
  by_cases hi : i < l.length
  · have := List.all_eq_true.1 h l[i] (List.getElem_mem hi)
    rw [List.getD_eq_getElem?_getD, List.getElem?_eq_getElem hi]
    exact Nat.le_of_ble_eq_true this
  · rw [List.getD_eq_getElem?_getD, List.getElem?_eq_none (by omega)]
    show 0 < 256; omega
/-- The curve's number. -/
def dN : Nat := 37095705934669439343138083508754565189542113879843219016388785533085940283555
def gX : Nat := 15112221349535400772501151409588531511454012693041857206046113283949847762202
end Go.Proofs.Ytgiemldmphbolaa

namespace Go.Proofs.Ytgiemldmphbolaa
open Go.RowKit

def ad (m n : Nat) : Nat := (m + n) % pp
def sb (m n : Nat) : Nat := (m + (pp - n)) % pp
def mu (m n : Nat) : Nat := m * n % pp
theorem ad_lt (m n : Nat) : ad m n < pp := mod_pp _
theorem sb_lt (m n : Nat) : sb m n < pp := mod_pp _
theorem mu_lt (m n : Nat) : mu m n < pp := mod_pp _
theorem zero_ltp : 0 < pp := pp_pos
theorem one_ltp : 1 < pp := by decide +kernel
theorem two_ltp : 2 < pp := by decide +kernel
theorem four_ltp : 4 < pp := by decide +kernel
theorem five_ltp : 5 < pp := by decide +kernel
theorem plus_m {m n : Nat} (hm : m < pp) (hn : n < pp) (w : World) : Calls Try.prog 62 #[el (dig m), el (dig n)] w fun e w' => e = .returned (el (dig (ad m n))) ∧ Below w.heap.size w w' := plus_d hm hn w
theorem minus_m {m n : Nat} (hm : m < pp) (hn : n < pp) (w : World) : Calls Try.prog 32 #[el (dig m), el (dig n)] w fun e w' => e = .returned (el (dig (sb m n))) ∧ Below w.heap.size w w' := minus_d hm hn w
theorem times_m {m n : Nat} (hm : m < pp) (hn : n < pp) (w : World) : Calls Try.prog 60 #[el (dig m), el (dig n)] w fun e w' => e = .returned (el (dig (mu m n))) ∧ Below w.heap.size w w' := times_d hm hn w
theorem over_m {m n : Nat} (hm : m < pp) (hn : n < pp) (w : World) : Calls Try.prog 52 #[el (dig m), el (dig n)] w fun e w' => e = .returned (el (dig (mu m (inv n)))) ∧ Below w.heap.size w w' := over_i hm hn w
theorem int_m {m : Nat} (h : m < 9223372036854775808) (w : World) : Calls Try.prog 51 #[.int .i64 ((m : Nat) : Int)] w fun e w' => e = .returned (el (dig m)) ∧ Below w.heap.size w w' := int_pos_d h w
theorem dN_lt : dN < pp := by decide +kernel
theorem gX_lt : gX < pp := by decide +kernel
theorem or_b {x u : Operand} {m : Nat} (h : m < 128) (w : World) : (do eqGuard .or 5 x u (.int .u8 ((m : Nat) : Int)) (.int .u8 ((128 : Nat) : Int)); binOp .or 5 (.int .u8 ((m : Nat) : Int)) (.int .u8 ((128 : Nat) : Int))).run Try.prog w = .ok (.int .u8 ((m + 128 : Nat) : Int)) w := by
  have h1 : ∀ k, k < 128 → bits .or .u8 ((k : Nat) : Int) 128 = ((k + 128 : Nat) : Int) := by decide +kernel
  have h2 := h1 m h
  simp [eqGuard, binOp, go_sem, h2]
theorem and_b {x u : Operand} {m : Nat} (h : m < 256) (w : World) : (do eqGuard .and 5 x u (.int .u8 ((m : Nat) : Int)) (.int .u8 ((128 : Nat) : Int)); binOp .and 5 (.int .u8 ((m : Nat) : Int)) (.int .u8 ((128 : Nat) : Int))).run Try.prog w = .ok (.int .u8 ((m / 128 * 128 : Nat) : Int)) w := by
  have h1 : ∀ k, k < 256 → bits .and .u8 ((k : Nat) : Int) 128 = ((k / 128 * 128 : Nat) : Int) := by decide +kernel
  have h2 := h1 m h
  simp [eqGuard, binOp, go_sem, h2]
theorem an_b {x u : Operand} {m : Nat} (h : m < 256) (w : World) : (do eqGuard .andNot 5 x u (.int .u8 ((m : Nat) : Int)) (.int .u8 ((128 : Nat) : Int)); binOp .andNot 5 (.int .u8 ((m : Nat) : Int)) (.int .u8 ((128 : Nat) : Int))).run Try.prog w = .ok (.int .u8 ((m % 128 : Nat) : Int)) w := by
  have h1 : ∀ k, k < 256 → bits .andNot .u8 ((k : Nat) : Int) 128 = ((k % 128 : Nat) : Int) := by decide +kernel
  have h2 := h1 m h
  simp [eqGuard, binOp, go_sem, h2]
theorem ne_b {x u : Operand} {m n : Nat} {b : Bool} (h : decide (¬ m = n) = b) (w : World) : (do eqGuard .neq 5 x u (.int .u8 ((m : Nat) : Int)) (.int .u8 ((n : Nat) : Int)); binOp .neq 5 (.int .u8 ((m : Nat) : Int)) (.int .u8 ((n : Nat) : Int))).run Try.prog w = .ok (.bool b) w := by
  have h1 : (((m : Nat) : Int) != ((n : Nat) : Int)) = b := by rw [← h, Bool.eq_iff_iff]; simp; omega
  simp [eqGuard, binOp, go_sem, h1]
theorem eq_b {x u : Operand} {m n : Nat} {b : Bool} (h : decide (m = n) = b) (w : World) : (do eqGuard .eql 5 x u (.int .u8 ((m : Nat) : Int)) (.int .u8 ((n : Nat) : Int)); binOp .eql 5 (.int .u8 ((m : Nat) : Int)) (.int .u8 ((n : Nat) : Int))).run Try.prog w = .ok (.bool b) w := by
  have h1 : (((m : Nat) : Int) == ((n : Nat) : Int)) = b := by rw [← h, Bool.eq_iff_iff]; simp; omega
  simp [eqGuard, binOp, go_sem, h1]
end Go.Proofs.Ytgiemldmphbolaa

namespace Go.Proofs.Ytgiemldmphbolaa
open Go.RowKit

set_option maxHeartbeats 4000000 in
theorem cnum_r (W0 : World) : Calls Try.prog 61 #[] W0 fun e w' => e = .returned (el (dig dN)) ∧ Below W0.heap.size W0 w' := by
  refine sym_enter Try.func61 Try.ntmps61 rfl [uu, uu, uu] (by kernel_rfl) (by kernel_rfl) ?_
  intro β a h
  refine sym_seq ?_
  refine St.region h [.inr (0, 0), uu, uu] [(ce 0, 29)] [(ce 0, 29)] [#[]] [⟨some 0, none, none, false⟩] (by kernel_rfl) (by kernel_rfl) (by kernel_rfl) (by kernel_rfl) (by kernel_rfl) (by kernel_rfl) (by kernel_rfl) (by kernel_rfl) ?_ ?_
  · refine ok_cons (ok_alloc (b := 0) alE rfl (by kernel_rfl) rfl (by kernel_rfl) (by kernel_rfl)) ?_
    exact ok_nil
  clear h; intro β a w h
  refine sym_then ?_
  refine sym_seq ?_
  refine St.region h [.inr (0, 0), .inl (.agg (ck (kl [163, 120, 89, 19, 202, 77, 235, 117, 171, 216, 65, 65, 77, 10, 112, 0, 152, 232, 121, 119, 121, 64, 199, 140, 115, 254, 111, 43, 238, 108, 3, 82]))), .inl (el (dig dN))] [(ce dN, 29)] [(ce 0, 29)] [ce dN] [nn, nn, ⟨none, some 0, none, false⟩] (by kernel_rfl) (by kernel_rfl) (by kernel_rfl) (by kernel_rfl) (by kernel_rfl) (by kernel_rfl) (by kernel_rfl) (by kernel_rfl) ?_ ?_
  · refine ok_cons (ok_build (vs := #[(0, .int .u8 ((163 : Nat) : Int)), (1, .int .u8 ((120 : Nat) : Int)), (2, .int .u8 ((89 : Nat) : Int)), (3, .int .u8 ((19 : Nat) : Int)), (4, .int .u8 ((202 : Nat) : Int)), (5, .int .u8 ((77 : Nat) : Int)), (6, .int .u8 ((235 : Nat) : Int)), (7, .int .u8 ((117 : Nat) : Int)), (8, .int .u8 ((171 : Nat) : Int)), (9, .int .u8 ((216 : Nat) : Int)), (10, .int .u8 ((65 : Nat) : Int)), (11, .int .u8 ((65 : Nat) : Int)), (12, .int .u8 ((77 : Nat) : Int)), (13, .int .u8 ((10 : Nat) : Int)), (14, .int .u8 ((112 : Nat) : Int)), (15, .int .u8 ((0 : Nat) : Int)), (16, .int .u8 ((152 : Nat) : Int)), (17, .int .u8 ((232 : Nat) : Int)), (18, .int .u8 ((121 : Nat) : Int)), (19, .int .u8 ((119 : Nat) : Int)), (20, .int .u8 ((121 : Nat) : Int)), (21, .int .u8 ((64 : Nat) : Int)), (22, .int .u8 ((199 : Nat) : Int)), (23, .int .u8 ((140 : Nat) : Int)), (24, .int .u8 ((115 : Nat) : Int)), (25, .int .u8 ((254 : Nat) : Int)), (26, .int .u8 ((111 : Nat) : Int)), (27, .int .u8 ((43 : Nat) : Int)), (28, .int .u8 ((238 : Nat) : Int)), (29, .int .u8 ((108 : Nat) : Int)), (30, .int .u8 ((3 : Nat) : Int)), (31, .int .u8 ((82 : Nat) : Int))]) (v := .agg (ck (kl [163, 120, 89, 19, 202, 77, 235, 117, 171, 216, 65, 65, 77, 10, 112, 0, 152, 232, 121, 119, 121, 64, 199, 140, 115, 254, 111, 43, 238, 108, 3, 82]))) (fun w => by kernel_rfl) rfl (by kernel_rfl) rfl (by kernel_rfl) (by kernel_rfl) (by kernel_rfl)) ?_
    refine ok_cons (ok_call (vs := #[.agg (ck (kl [163, 120, 89, 19, 202, 77, 235, 117, 171, 216, 65, 65, 77, 10, 112, 0, 152, 232, 121, 119, 121, 64, 199, 140, 115, 254, 111, 43, 238, 108, 3, 82]))]) (R := el (dig dN)) (fun w => by have := of_k (b := (kl [163, 120, 89, 19, 202, 77, 235, 117, 171, 216, 65, 65, 77, 10, 112, 0, 152, 232, 121, 119, 121, 64, 199, 140, 115, 254, 111, 43, 238, 108, 3, 82])) (kl_lt (by decide)) w; rwa [show ofb (kl [163, 120, 89, 19, 202, 77, 235, 117, 171, 216, 65, 65, 77, 10, 112, 0, 152, 232, 121, 119, 121, 64, 199, 140, 115, 254, 111, 43, 238, 108, 3, 82]) = dN by decide +kernel] at this) rfl (by kernel_rfl) rfl (by kernel_rfl) (by kernel_rfl) (by kernel_rfl) (fun w => by kernel_rfl)) ?_
    refine ok_cons (ok_store (b := 0) (off := 0) (u := el (dig dN)) (c := ce 0) (n := ce dN) (stE (n := dN) (c := ce 0) 29 (ce_size _)) rfl (by kernel_rfl) rfl (by kernel_rfl) (by kernel_rfl) (by kernel_rfl) (by kernel_rfl) (by kernel_rfl)) ?_
    exact ok_nil
  clear h; intro β a w h
  refine sym_then ?_
  refine wp_ret ?_
  exact sym_retc (b := 0) (t0 := 29) (c := ce dN) h Try.results61 (by kernel_rfl) (by kernel_rfl) (by kernel_rfl) Try.underlying29 rfl (by kernel_rfl) (fun hb => ⟨rfl, hb⟩)

set_option maxHeartbeats 4000000 in
theorem law_r  (W0 : World) : Calls Try.prog 46 #[] W0 fun e w' => e = .returned (.agg (ces [dN])) ∧ Below W0.heap.size W0 w' := by
  refine sym_enter Try.func46 Try.ntmps46 rfl [uu, uu, uu] (by kernel_rfl) (by kernel_rfl) ?_
  intro β a h
  refine sym_seq ?_
  refine St.region h [.inr (0, 0), uu, uu] [(ces [0], 75)] [(ces [0], 75)] [#[]] [⟨some 0, none, none, false⟩] (by kernel_rfl) (by kernel_rfl) (by kernel_rfl) (by kernel_rfl) (by kernel_rfl) (by kernel_rfl) (by kernel_rfl) (by kernel_rfl) ?_ ?_
  · refine ok_cons (ok_alloc (b := 0) alL rfl (by kernel_rfl) rfl (by kernel_rfl) (by kernel_rfl)) ?_
    exact ok_nil
  clear h; intro β a w h
  refine sym_then ?_
  refine sym_seq ?_
  refine St.region h [.inr (0, 0), .inl (el (dig dN)), .inl (.agg (ces [dN]))] [(ces [dN], 75)] [(ces [0], 75)] [ces [dN]] [nn, nn, ⟨none, some 0, none, false⟩] (by kernel_rfl) (by kernel_rfl) (by kernel_rfl) (by kernel_rfl) (by kernel_rfl) (by kernel_rfl) (by kernel_rfl) (by kernel_rfl) ?_ ?_
  · refine ok_cons (ok_call (vs := #[]) (R := el (dig dN)) cnum_r rfl (by kernel_rfl) rfl (by kernel_rfl) (by kernel_rfl) (by kernel_rfl) (fun w => by kernel_rfl)) ?_
    refine ok_cons (ok_build (vs := #[(0, el (dig dN))]) (v := .agg (ces [dN])) (bdL (a := dN)) rfl (by kernel_rfl) rfl (by kernel_rfl) (by kernel_rfl) (by kernel_rfl)) ?_
    refine ok_cons (ok_store (b := 0) (off := 0) (u := .agg (ces [dN])) (c := ces [0]) (n := ces [dN]) (stL (a := dN) (e := ces [0]) 75 (by rw [ces_size]; rfl)) rfl (by kernel_rfl) rfl (by kernel_rfl) (by kernel_rfl) (by kernel_rfl) (by kernel_rfl) (by kernel_rfl)) ?_
    exact ok_nil
  clear h; intro β a w h
  refine sym_then ?_
  refine wp_ret ?_
  exact sym_retc (b := 0) (t0 := 75) (c := ces [dN]) h Try.results46 (by kernel_rfl) (by kernel_rfl) (by kernel_rfl) Try.underlying75 rfl (by rw [ces_size]; kernel_rfl) (fun hb => ⟨rfl, hb⟩)

set_option maxHeartbeats 4000000 in
theorem twice_r {x : Nat} (hx : x < pp) (W0 : World) : Calls Try.prog 72 #[el (dig x)] W0 fun e w' => e = .returned (el (dig (ad x x))) ∧ Below W0.heap.size W0 w' := by
  refine sym_enter Try.func72 Try.ntmps72 rfl [.inl (el (dig x)), uu, uu, uu, uu, uu] (by kernel_rfl) (by kernel_rfl) ?_
  intro β a h
  refine sym_seq ?_
  refine St.region h [.inl (el (dig x)), .inr (0, 0), .inr (1, 0), uu, uu, uu] [(ce x, 29), (ce 0, 29)] [(ce x, 29), (ce 0, 29)] [#[], #[]] [⟨some 0, none, none, false⟩, ⟨some 1, none, none, false⟩] (by kernel_rfl) (by kernel_rfl) (by kernel_rfl) (by kernel_rfl) (by kernel_rfl) (by kernel_rfl) (by kernel_rfl) (by kernel_rfl) ?_ ?_
  · refine ok_cons (ok_box (b := 0) (u := el (dig x)) (bxE (n := x)) rfl (by kernel_rfl) rfl (by kernel_rfl) (by kernel_rfl) (by kernel_rfl) (by kernel_rfl)) ?_
    refine ok_cons (ok_alloc (b := 1) alE rfl (by kernel_rfl) rfl (by kernel_rfl) (by kernel_rfl)) ?_
    exact ok_nil
  clear h; intro β a w h
  refine sym_then ?_
  refine sym_seq ?_
  refine St.region h [.inl (el (dig x)), .inr (0, 0), .inr (1, 0), .inl (el (dig x)), .inl (el (dig x)), .inl (el (dig (ad x x)))] [(ce x, 29), (ce (ad x x), 29)] [(ce x, 29), (ce 0, 29)] [#[], ce (ad x x)] [⟨none, none, some 0, false⟩, ⟨none, none, some 0, false⟩, nn, ⟨none, some 1, none, false⟩] (by kernel_rfl) (by kernel_rfl) (by kernel_rfl) (by kernel_rfl) (by kernel_rfl) (by kernel_rfl) (by kernel_rfl) (by kernel_rfl) ?_ ?_
  · refine ok_cons (ok_load (b := 0) (off := 0) (c := ce x) (v := el (dig x)) (ldE (n := x) 29) rfl (by kernel_rfl) rfl (by kernel_rfl) (by kernel_rfl) (by kernel_rfl)) ?_
    refine ok_cons (ok_load (b := 0) (off := 0) (c := ce x) (v := el (dig x)) (ldE (n := x) 29) rfl (by kernel_rfl) rfl (by kernel_rfl) (by kernel_rfl) (by kernel_rfl)) ?_
    refine ok_cons (ok_call (vs := #[el (dig x), el (dig x)]) (R := el (dig (ad x x))) (fun w => plus_m hx hx w) rfl (by kernel_rfl) rfl (by kernel_rfl) (by kernel_rfl) (by kernel_rfl) (fun w => by kernel_rfl)) ?_
    refine ok_cons (ok_store (b := 1) (off := 0) (u := el (dig (ad x x))) (c := ce 0) (n := ce (ad x x)) (stE (n := (ad x x)) (c := ce 0) 29 (ce_size _)) rfl (by kernel_rfl) rfl (by kernel_rfl) (by kernel_rfl) (by kernel_rfl) (by kernel_rfl) (by kernel_rfl)) ?_
    exact ok_nil
  clear h; intro β a w h
  refine sym_then ?_
  refine wp_ret ?_
  exact sym_retc (b := 1) (t0 := 29) (c := ce (ad x x)) h Try.results72 (by kernel_rfl) (by kernel_rfl) (by kernel_rfl) Try.underlying29 rfl (by kernel_rfl) (fun hb => ⟨rfl, hb⟩)

set_option maxHeartbeats 4000000 in
theorem at_r {x y : Nat} (hy : y < pp) (W0 : World) : Calls Try.prog 33 #[el (dig x), el (dig y)] W0 fun e w' => e = .returned (.agg (ces [x, sb y 1])) ∧ Below W0.heap.size W0 w' := by
  refine sym_enter Try.func33 Try.ntmps33 rfl [.inl (el (dig x)), .inl (el (dig y)), uu, uu, uu, uu, uu, uu, uu, uu] (by kernel_rfl) (by kernel_rfl) ?_
  intro β a h
  refine sym_seq ?_
  refine St.region h [.inl (el (dig x)), .inl (el (dig y)), .inr (0, 0), .inr (1, 0), .inr (2, 0), uu, uu, uu, uu, uu] [(ce x, 29), (ce y, 29), (ces [0, 0], 31)] [(ce x, 29), (ce y, 29), (ces [0, 0], 31)] [#[], #[], #[]] [⟨some 0, none, none, false⟩, ⟨some 1, none, none, false⟩, ⟨some 2, none, none, false⟩] (by kernel_rfl) (by kernel_rfl) (by kernel_rfl) (by kernel_rfl) (by kernel_rfl) (by kernel_rfl) (by kernel_rfl) (by kernel_rfl) ?_ ?_
  · refine ok_cons (ok_box (b := 0) (u := el (dig x)) (bxE (n := x)) rfl (by kernel_rfl) rfl (by kernel_rfl) (by kernel_rfl) (by kernel_rfl) (by kernel_rfl)) ?_
    refine ok_cons (ok_box (b := 1) (u := el (dig y)) (bxE (n := y)) rfl (by kernel_rfl) rfl (by kernel_rfl) (by kernel_rfl) (by kernel_rfl) (by kernel_rfl)) ?_
    refine ok_cons (ok_alloc (b := 2) alP rfl (by kernel_rfl) rfl (by kernel_rfl) (by kernel_rfl)) ?_
    exact ok_nil
  clear h; intro β a w h
  refine sym_then ?_
  refine sym_seq ?_
  refine St.region h [.inl (el (dig x)), .inl (el (dig y)), .inr (0, 0), .inr (1, 0), .inr (2, 0), .inl (el (dig x)), .inl (el (dig y)), .inl (el (dig 1)), .inl (el (dig (sb y 1))), .inl (.agg (ces [x, (sb y 1)]))] [(ce x, 29), (ce y, 29), (ces [x, (sb y 1)], 31)] [(ce x, 29), (ce y, 29), (ces [0, 0], 31)] [#[], #[], ces [x, (sb y 1)]] [⟨none, none, some 0, false⟩, ⟨none, none, some 1, false⟩, nn, nn, nn, ⟨none, some 2, none, false⟩] (by kernel_rfl) (by kernel_rfl) (by kernel_rfl) (by kernel_rfl) (by kernel_rfl) (by kernel_rfl) (by kernel_rfl) (by kernel_rfl) ?_ ?_
  · refine ok_cons (ok_load (b := 0) (off := 0) (c := ce x) (v := el (dig x)) (ldE (n := x) 29) rfl (by kernel_rfl) rfl (by kernel_rfl) (by kernel_rfl) (by kernel_rfl)) ?_
    refine ok_cons (ok_load (b := 1) (off := 0) (c := ce y) (v := el (dig y)) (ldE (n := y) 29) rfl (by kernel_rfl) rfl (by kernel_rfl) (by kernel_rfl) (by kernel_rfl)) ?_
    refine ok_cons (ok_call (vs := #[.int .i64 ((1 : Nat) : Int)]) (R := el (dig 1)) (fun w => int_m (m := 1) (by decide) w) rfl (by kernel_rfl) rfl (by kernel_rfl) (by kernel_rfl) (by kernel_rfl) (fun w => by kernel_rfl)) ?_
    refine ok_cons (ok_call (vs := #[el (dig y), el (dig 1)]) (R := el (dig (sb y 1))) (fun w => minus_m hy one_ltp w) rfl (by kernel_rfl) rfl (by kernel_rfl) (by kernel_rfl) (by kernel_rfl) (fun w => by kernel_rfl)) ?_
    refine ok_cons (ok_build (vs := #[(0, el (dig x)), (1, el (dig (sb y 1)))]) (v := .agg (ces [x, (sb y 1)])) (bdP (a := x) (b := (sb y 1))) rfl (by kernel_rfl) rfl (by kernel_rfl) (by kernel_rfl) (by kernel_rfl)) ?_
    refine ok_cons (ok_store (b := 2) (off := 0) (u := .agg (ces [x, (sb y 1)])) (c := ces [0, 0]) (n := ces [x, (sb y 1)]) (stP (a := x) (b := (sb y 1)) (c := ces [0, 0]) 31 (by rw [ces_size]; rfl)) rfl (by kernel_rfl) rfl (by kernel_rfl) (by kernel_rfl) (by kernel_rfl) (by kernel_rfl) (by kernel_rfl)) ?_
    exact ok_nil
  clear h; intro β a w h
  refine sym_then ?_
  refine wp_ret ?_
  exact sym_retc (b := 2) (t0 := 31) (c := ces [x, (sb y 1)]) h Try.results33 (by kernel_rfl) (by kernel_rfl) (by kernel_rfl) Try.underlying31 rfl (by rw [ces_size]; kernel_rfl) (fun hb => ⟨rfl, hb⟩)

set_option maxHeartbeats 4000000 in
theorem y_r {x b : Nat} (hb : b < pp) (W0 : World) : Calls Try.prog 44 #[.agg (ces [x, b])] W0 fun e w' => e = .returned (el (dig (ad b 1))) ∧ Below W0.heap.size W0 w' := by
  refine sym_enter Try.func44 Try.ntmps44 rfl [.inl (.agg (ces [x, b])), uu, uu, uu, uu, uu, uu] (by kernel_rfl) (by kernel_rfl) ?_
  intro β a h
  refine sym_seq ?_
  refine St.region h [.inl (.agg (ces [x, b])), .inr (0, 0), .inr (1, 0), uu, uu, uu, uu] [(ces [x, b], 31), (ce 0, 29)] [(ces [x, b], 31), (ce 0, 29)] [#[], #[]] [⟨some 0, none, none, false⟩, ⟨some 1, none, none, false⟩] (by kernel_rfl) (by kernel_rfl) (by kernel_rfl) (by kernel_rfl) (by kernel_rfl) (by kernel_rfl) (by kernel_rfl) (by kernel_rfl) ?_ ?_
  · refine ok_cons (ok_box (b := 0) (u := .agg (ces [x, b])) (bxP (a := x) (b := b)) rfl (by kernel_rfl) rfl (by kernel_rfl) (by kernel_rfl) (by kernel_rfl) (by kernel_rfl)) ?_
    refine ok_cons (ok_alloc (b := 1) alE rfl (by kernel_rfl) rfl (by kernel_rfl) (by kernel_rfl)) ?_
    exact ok_nil
  clear h; intro β a w h
  refine sym_then ?_
  refine sym_seq ?_
  refine St.region h [.inl (.agg (ces [x, b])), .inr (0, 0), .inr (1, 0), .inr (0, 4), .inl (el (dig b)), .inl (el (dig 1)), .inl (el (dig (ad b 1)))] [(ces [x, b], 31), (ce (ad b 1), 29)] [(ces [x, b], 31), (ce 0, 29)] [#[], ce (ad b 1)] [nn, ⟨none, none, some 0, false⟩, nn, nn, ⟨none, some 1, none, false⟩] (by kernel_rfl) (by kernel_rfl) (by kernel_rfl) (by kernel_rfl) (by kernel_rfl) (by kernel_rfl) (by kernel_rfl) (by kernel_rfl) ?_ ?_
  · refine ok_cons (ok_faddr (b := 0) (off := 0) (off' := 4) (fun w q => by kernel_rfl) rfl (by kernel_rfl) rfl (by kernel_rfl) (by kernel_rfl)) ?_
    refine ok_cons (ok_load (b := 0) (off := 4) (c := ces [x, b]) (v := el (dig b)) (ld_ces (l := [x, b]) (k := 1) (n := b) 31 rfl) rfl (by kernel_rfl) rfl (by kernel_rfl) (by kernel_rfl) (by kernel_rfl)) ?_
    refine ok_cons (ok_call (vs := #[.int .i64 ((1 : Nat) : Int)]) (R := el (dig 1)) (fun w => int_m (m := 1) (by decide) w) rfl (by kernel_rfl) rfl (by kernel_rfl) (by kernel_rfl) (by kernel_rfl) (fun w => by kernel_rfl)) ?_
    refine ok_cons (ok_call (vs := #[el (dig b), el (dig 1)]) (R := el (dig (ad b 1))) (fun w => plus_m hb one_ltp w) rfl (by kernel_rfl) rfl (by kernel_rfl) (by kernel_rfl) (by kernel_rfl) (fun w => by kernel_rfl)) ?_
    refine ok_cons (ok_store (b := 1) (off := 0) (u := el (dig (ad b 1))) (c := ce 0) (n := ce (ad b 1)) (stE (n := (ad b 1)) (c := ce 0) 29 (ce_size _)) rfl (by kernel_rfl) rfl (by kernel_rfl) (by kernel_rfl) (by kernel_rfl) (by kernel_rfl) (by kernel_rfl)) ?_
    exact ok_nil
  clear h; intro β a w h
  refine sym_then ?_
  refine wp_ret ?_
  exact sym_retc (b := 1) (t0 := 29) (c := ce (ad b 1)) h Try.results44 (by kernel_rfl) (by kernel_rfl) (by kernel_rfl) Try.underlying29 rfl (by kernel_rfl) (fun hb => ⟨rfl, hb⟩)

set_option maxHeartbeats 4000000 in
theorem shared_r {x b : Nat} (hx : x < pp) (hb : b < pp) (W0 : World) : Calls Try.prog 48 #[.agg (ces [x, b])] W0 fun e w' => e = .returned (.agg (ces [x, ad b 1, 1, mu x (ad b 1)])) ∧ Below W0.heap.size W0 w' := by
  refine sym_enter Try.func48 Try.ntmps48 rfl [.inl (.agg (ces [x, b])), uu, uu, uu, uu, uu, uu, uu, uu, uu, uu, uu, uu, uu, uu] (by kernel_rfl) (by kernel_rfl) ?_
  intro β a h
  refine sym_seq ?_
  refine St.region h [.inl (.agg (ces [x, b])), .inr (0, 0), .inr (1, 0), uu, uu, uu, uu, uu, uu, uu, uu, uu, uu, uu, uu] [(ces [x, b], 31), (ces [0, 0, 0, 0], 78)] [(ces [x, b], 31), (ces [0, 0, 0, 0], 78)] [#[], #[]] [⟨some 0, none, none, false⟩, ⟨some 1, none, none, false⟩] (by kernel_rfl) (by kernel_rfl) (by kernel_rfl) (by kernel_rfl) (by kernel_rfl) (by kernel_rfl) (by kernel_rfl) (by kernel_rfl) ?_ ?_
  · refine ok_cons (ok_box (b := 0) (u := .agg (ces [x, b])) (bxP (a := x) (b := b)) rfl (by kernel_rfl) rfl (by kernel_rfl) (by kernel_rfl) (by kernel_rfl) (by kernel_rfl)) ?_
    refine ok_cons (ok_alloc (b := 1) alS rfl (by kernel_rfl) rfl (by kernel_rfl) (by kernel_rfl)) ?_
    exact ok_nil
  clear h; intro β a w h
  refine sym_then ?_
  refine sym_seq ?_
  refine St.region h [.inl (.agg (ces [x, b])), .inr (0, 0), .inr (1, 0), .inr (2, 0), .inl (.agg (ces [x, b])), .inl (el (dig (ad b 1))), uu, uu, uu, uu, uu, uu, uu, uu, uu] [(ces [x, b], 31), (ces [0, 0, 0, 0], 78), (ce (ad b 1), 29)] [(ces [x, b], 31), (ces [0, 0, 0, 0], 78), (ce 0, 29)] [#[], #[], ce (ad b 1)] [⟨none, none, some 0, false⟩, nn, ⟨some 2, none, none, false⟩, ⟨none, some 2, none, false⟩] (by kernel_rfl) (by kernel_rfl) (by kernel_rfl) (by kernel_rfl) (by kernel_rfl) (by kernel_rfl) (by kernel_rfl) (by kernel_rfl) ?_ ?_
  · refine ok_cons (ok_load (b := 0) (off := 0) (c := ces [x, b]) (v := .agg (ces [x, b])) (ldP (a := x) (b := b) 31) rfl (by kernel_rfl) rfl (by kernel_rfl) (by kernel_rfl) (by kernel_rfl)) ?_
    refine ok_cons (ok_call (vs := #[.agg (ces [x, b])]) (R := el (dig (ad b 1))) (fun w => y_r hb w) rfl (by kernel_rfl) rfl (by kernel_rfl) (by kernel_rfl) (by kernel_rfl) (fun w => by kernel_rfl)) ?_
    refine ok_cons (ok_alloc (b := 2) alE rfl (by kernel_rfl) rfl (by kernel_rfl) (by kernel_rfl)) ?_
    refine ok_cons (ok_store (b := 2) (off := 0) (u := el (dig (ad b 1))) (c := ce 0) (n := ce (ad b 1)) (stE (n := (ad b 1)) (c := ce 0) 29 (ce_size _)) rfl (by kernel_rfl) rfl (by kernel_rfl) (by kernel_rfl) (by kernel_rfl) (by kernel_rfl) (by kernel_rfl)) ?_
    exact ok_nil
  clear h; intro β a w h
  refine sym_then ?_
  refine sym_seq ?_
  refine St.region h [.inl (.agg (ces [x, b])), .inr (0, 0), .inr (1, 0), .inr (2, 0), .inl (.agg (ces [x, b])), .inl (el (dig (ad b 1))), .inr (0, 0), .inl (el (dig x)), .inl (el (dig (ad b 1))), .inl (el (dig 1)), .inr (0, 0), .inl (el (dig x)), .inl (el (dig (ad b 1))), .inl (el (dig (mu x (ad b 1)))), .inl (.agg (ces [x, (ad b 1), 1, (mu x (ad b 1))]))] [(ces [x, b], 31), (ces [x, (ad b 1), 1, (mu x (ad b 1))], 78), (ce (ad b 1), 29)] [(ces [x, b], 31), (ces [0, 0, 0, 0], 78), (ce (ad b 1), 29)] [#[], ces [x, (ad b 1), 1, (mu x (ad b 1))], #[]] [nn, ⟨none, none, some 0, false⟩, ⟨none, none, some 2, false⟩, nn, nn, ⟨none, none, some 0, false⟩, ⟨none, none, some 2, false⟩, nn, nn, ⟨none, some 1, none, false⟩] (by kernel_rfl) (by kernel_rfl) (by kernel_rfl) (by kernel_rfl) (by kernel_rfl) (by kernel_rfl) (by kernel_rfl) (by kernel_rfl) ?_ ?_
  · refine ok_cons (ok_faddr (b := 0) (off := 0) (off' := 0) (fun w q => by kernel_rfl) rfl (by kernel_rfl) rfl (by kernel_rfl) (by kernel_rfl)) ?_
    refine ok_cons (ok_load (b := 0) (off := 0) (c := ces [x, b]) (v := el (dig x)) (ld_ces (l := [x, b]) (k := 0) (n := x) 31 rfl) rfl (by kernel_rfl) rfl (by kernel_rfl) (by kernel_rfl) (by kernel_rfl)) ?_
    refine ok_cons (ok_load (b := 2) (off := 0) (c := ce (ad b 1)) (v := el (dig (ad b 1))) (ldE (n := (ad b 1)) 29) rfl (by kernel_rfl) rfl (by kernel_rfl) (by kernel_rfl) (by kernel_rfl)) ?_
    refine ok_cons (ok_call (vs := #[.int .i64 ((1 : Nat) : Int)]) (R := el (dig 1)) (fun w => int_m (m := 1) (by decide) w) rfl (by kernel_rfl) rfl (by kernel_rfl) (by kernel_rfl) (by kernel_rfl) (fun w => by kernel_rfl)) ?_
    refine ok_cons (ok_faddr (b := 0) (off := 0) (off' := 0) (fun w q => by kernel_rfl) rfl (by kernel_rfl) rfl (by kernel_rfl) (by kernel_rfl)) ?_
    refine ok_cons (ok_load (b := 0) (off := 0) (c := ces [x, b]) (v := el (dig x)) (ld_ces (l := [x, b]) (k := 0) (n := x) 31 rfl) rfl (by kernel_rfl) rfl (by kernel_rfl) (by kernel_rfl) (by kernel_rfl)) ?_
    refine ok_cons (ok_load (b := 2) (off := 0) (c := ce (ad b 1)) (v := el (dig (ad b 1))) (ldE (n := (ad b 1)) 29) rfl (by kernel_rfl) rfl (by kernel_rfl) (by kernel_rfl) (by kernel_rfl)) ?_
    refine ok_cons (ok_call (vs := #[el (dig x), el (dig (ad b 1))]) (R := el (dig (mu x (ad b 1)))) (fun w => times_m hx (ad_lt _ _) w) rfl (by kernel_rfl) rfl (by kernel_rfl) (by kernel_rfl) (by kernel_rfl) (fun w => by kernel_rfl)) ?_
    refine ok_cons (ok_build (vs := #[(0, el (dig x)), (1, el (dig (ad b 1))), (2, el (dig 1)), (3, el (dig (mu x (ad b 1))))]) (v := .agg (ces [x, (ad b 1), 1, (mu x (ad b 1))])) (bdS (a := x) (b := (ad b 1)) (c := 1) (d := (mu x (ad b 1)))) rfl (by kernel_rfl) rfl (by kernel_rfl) (by kernel_rfl) (by kernel_rfl)) ?_
    refine ok_cons (ok_store (b := 1) (off := 0) (u := .agg (ces [x, (ad b 1), 1, (mu x (ad b 1))])) (c := ces [0, 0, 0, 0]) (n := ces [x, (ad b 1), 1, (mu x (ad b 1))]) (stS (a := x) (b := (ad b 1)) (c := 1) (d := (mu x (ad b 1))) (e := ces [0, 0, 0, 0]) 78 (by rw [ces_size]; rfl)) rfl (by kernel_rfl) rfl (by kernel_rfl) (by kernel_rfl) (by kernel_rfl) (by kernel_rfl) (by kernel_rfl)) ?_
    exact ok_nil
  clear h; intro β a w h
  refine sym_then ?_
  refine wp_ret ?_
  exact sym_retc (b := 1) (t0 := 78) (c := ces [x, (ad b 1), 1, (mu x (ad b 1))]) h Try.results48 (by kernel_rfl) (by kernel_rfl) (by kernel_rfl) Try.underlying78 rfl (by rw [ces_size]; kernel_rfl) (fun hb => ⟨rfl, hb⟩)

set_option maxHeartbeats 4000000 in
theorem point_r {X Y Z T : Nat} (hX : X < pp) (hY : Y < pp) (hZ : Z < pp) (W0 : World) : Calls Try.prog 49 #[.agg (ces [X, Y, Z, T])] W0 fun e w' => e = .returned (.agg (ces [mu X (mu 1 (inv Z)), sb (mu Y (mu 1 (inv Z))) 1])) ∧ Below W0.heap.size W0 w' := by
  refine sym_enter Try.func49 Try.ntmps49 rfl [.inl (.agg (ces [X, Y, Z, T])), uu, uu, uu, uu, uu, uu, uu, uu, uu, uu, uu, uu, uu, uu, uu, uu] (by kernel_rfl) (by kernel_rfl) ?_
  intro β a h
  refine sym_seq ?_
  refine St.region h [.inl (.agg (ces [X, Y, Z, T])), .inr (0, 0), .inr (1, 0), uu, uu, uu, uu, uu, uu, uu, uu, uu, uu, uu, uu, uu, uu] [(ces [X, Y, Z, T], 78), (ces [0, 0], 31)] [(ces [X, Y, Z, T], 78), (ces [0, 0], 31)] [#[], #[]] [⟨some 0, none, none, false⟩, ⟨some 1, none, none, false⟩] (by kernel_rfl) (by kernel_rfl) (by kernel_rfl) (by kernel_rfl) (by kernel_rfl) (by kernel_rfl) (by kernel_rfl) (by kernel_rfl) ?_ ?_
  · refine ok_cons (ok_box (b := 0) (u := .agg (ces [X, Y, Z, T])) (bxS (a := X) (b := Y) (c := Z) (d := T)) rfl (by kernel_rfl) rfl (by kernel_rfl) (by kernel_rfl) (by kernel_rfl) (by kernel_rfl)) ?_
    refine ok_cons (ok_alloc (b := 1) alP rfl (by kernel_rfl) rfl (by kernel_rfl) (by kernel_rfl)) ?_
    exact ok_nil
  clear h; intro β a w h
  refine sym_then ?_
  refine sym_seq ?_
  refine St.region h [.inl (.agg (ces [X, Y, Z, T])), .inr (0, 0), .inr (1, 0), .inr (2, 0), .inl (el (dig 1)), .inr (0, 8), .inl (el (dig Z)), .inl (el (dig (mu 1 (inv Z)))), uu, uu, uu, uu, uu, uu, uu, uu, uu] [(ces [X, Y, Z, T], 78), (ces [0, 0], 31), (ce (mu 1 (inv Z)), 29)] [(ces [X, Y, Z, T], 78), (ces [0, 0], 31), (ce 0, 29)] [#[], #[], ce (mu 1 (inv Z))] [nn, nn, ⟨none, none, some 0, false⟩, nn, ⟨some 2, none, none, false⟩, ⟨none, some 2, none, false⟩] (by kernel_rfl) (by kernel_rfl) (by kernel_rfl) (by kernel_rfl) (by kernel_rfl) (by kernel_rfl) (by kernel_rfl) (by kernel_rfl) ?_ ?_
  · refine ok_cons (ok_call (vs := #[.int .i64 ((1 : Nat) : Int)]) (R := el (dig 1)) (fun w => int_m (m := 1) (by decide) w) rfl (by kernel_rfl) rfl (by kernel_rfl) (by kernel_rfl) (by kernel_rfl) (fun w => by kernel_rfl)) ?_
    refine ok_cons (ok_faddr (b := 0) (off := 0) (off' := 8) (fun w q => by kernel_rfl) rfl (by kernel_rfl) rfl (by kernel_rfl) (by kernel_rfl)) ?_
    refine ok_cons (ok_load (b := 0) (off := 8) (c := ces [X, Y, Z, T]) (v := el (dig Z)) (ld_ces (l := [X, Y, Z, T]) (k := 2) (n := Z) 78 rfl) rfl (by kernel_rfl) rfl (by kernel_rfl) (by kernel_rfl) (by kernel_rfl)) ?_
    refine ok_cons (ok_call (vs := #[el (dig 1), el (dig Z)]) (R := el (dig (mu 1 (inv Z)))) (fun w => over_m one_ltp hZ w) rfl (by kernel_rfl) rfl (by kernel_rfl) (by kernel_rfl) (by kernel_rfl) (fun w => by kernel_rfl)) ?_
    refine ok_cons (ok_alloc (b := 2) alE rfl (by kernel_rfl) rfl (by kernel_rfl) (by kernel_rfl)) ?_
    refine ok_cons (ok_store (b := 2) (off := 0) (u := el (dig (mu 1 (inv Z)))) (c := ce 0) (n := ce (mu 1 (inv Z))) (stE (n := (mu 1 (inv Z))) (c := ce 0) 29 (ce_size _)) rfl (by kernel_rfl) rfl (by kernel_rfl) (by kernel_rfl) (by kernel_rfl) (by kernel_rfl) (by kernel_rfl)) ?_
    exact ok_nil
  clear h; intro β a w h
  refine sym_then ?_
  refine sym_seq ?_
  refine St.region h [.inl (.agg (ces [X, Y, Z, T])), .inr (0, 0), .inr (1, 0), .inr (2, 0), .inl (el (dig 1)), .inr (0, 8), .inl (el (dig Z)), .inl (el (dig (mu 1 (inv Z)))), .inr (0, 0), .inl (el (dig X)), .inl (el (dig (mu 1 (inv Z)))), .inl (el (dig (mu X (mu 1 (inv Z))))), .inr (0, 4), .inl (el (dig Y)), .inl (el (dig (mu 1 (inv Z)))), .inl (el (dig (mu Y (mu 1 (inv Z))))), .inl (.agg (ces [(mu X (mu 1 (inv Z))), (sb (mu Y (mu 1 (inv Z))) 1)]))] [(ces [X, Y, Z, T], 78), (ces [(mu X (mu 1 (inv Z))), (sb (mu Y (mu 1 (inv Z))) 1)], 31), (ce (mu 1 (inv Z)), 29)] [(ces [X, Y, Z, T], 78), (ces [0, 0], 31), (ce (mu 1 (inv Z)), 29)] [#[], ces [(mu X (mu 1 (inv Z))), (sb (mu Y (mu 1 (inv Z))) 1)], #[]] [nn, ⟨none, none, some 0, false⟩, ⟨none, none, some 2, false⟩, nn, nn, ⟨none, none, some 0, false⟩, ⟨none, none, some 2, false⟩, nn, nn, ⟨none, some 1, none, false⟩] (by kernel_rfl) (by kernel_rfl) (by kernel_rfl) (by kernel_rfl) (by kernel_rfl) (by kernel_rfl) (by kernel_rfl) (by kernel_rfl) ?_ ?_
  · refine ok_cons (ok_faddr (b := 0) (off := 0) (off' := 0) (fun w q => by kernel_rfl) rfl (by kernel_rfl) rfl (by kernel_rfl) (by kernel_rfl)) ?_
    refine ok_cons (ok_load (b := 0) (off := 0) (c := ces [X, Y, Z, T]) (v := el (dig X)) (ld_ces (l := [X, Y, Z, T]) (k := 0) (n := X) 78 rfl) rfl (by kernel_rfl) rfl (by kernel_rfl) (by kernel_rfl) (by kernel_rfl)) ?_
    refine ok_cons (ok_load (b := 2) (off := 0) (c := ce (mu 1 (inv Z))) (v := el (dig (mu 1 (inv Z)))) (ldE (n := (mu 1 (inv Z))) 29) rfl (by kernel_rfl) rfl (by kernel_rfl) (by kernel_rfl) (by kernel_rfl)) ?_
    refine ok_cons (ok_call (vs := #[el (dig X), el (dig (mu 1 (inv Z)))]) (R := el (dig (mu X (mu 1 (inv Z))))) (fun w => times_m hX (mu_lt _ _) w) rfl (by kernel_rfl) rfl (by kernel_rfl) (by kernel_rfl) (by kernel_rfl) (fun w => by kernel_rfl)) ?_
    refine ok_cons (ok_faddr (b := 0) (off := 0) (off' := 4) (fun w q => by kernel_rfl) rfl (by kernel_rfl) rfl (by kernel_rfl) (by kernel_rfl)) ?_
    refine ok_cons (ok_load (b := 0) (off := 4) (c := ces [X, Y, Z, T]) (v := el (dig Y)) (ld_ces (l := [X, Y, Z, T]) (k := 1) (n := Y) 78 rfl) rfl (by kernel_rfl) rfl (by kernel_rfl) (by kernel_rfl) (by kernel_rfl)) ?_
    refine ok_cons (ok_load (b := 2) (off := 0) (c := ce (mu 1 (inv Z))) (v := el (dig (mu 1 (inv Z)))) (ldE (n := (mu 1 (inv Z))) 29) rfl (by kernel_rfl) rfl (by kernel_rfl) (by kernel_rfl) (by kernel_rfl)) ?_
    refine ok_cons (ok_call (vs := #[el (dig Y), el (dig (mu 1 (inv Z)))]) (R := el (dig (mu Y (mu 1 (inv Z))))) (fun w => times_m hY (mu_lt _ _) w) rfl (by kernel_rfl) rfl (by kernel_rfl) (by kernel_rfl) (by kernel_rfl) (fun w => by kernel_rfl)) ?_
    refine ok_cons (ok_call (vs := #[el (dig (mu X (mu 1 (inv Z)))), el (dig (mu Y (mu 1 (inv Z))))]) (R := .agg (ces [(mu X (mu 1 (inv Z))), (sb (mu Y (mu 1 (inv Z))) 1)])) (fun w => at_r (mu_lt _ _) w) rfl (by kernel_rfl) rfl (by kernel_rfl) (by kernel_rfl) (by kernel_rfl) (fun w => by kernel_rfl)) ?_
    refine ok_cons (ok_store (b := 1) (off := 0) (u := .agg (ces [(mu X (mu 1 (inv Z))), (sb (mu Y (mu 1 (inv Z))) 1)])) (c := ces [0, 0]) (n := ces [(mu X (mu 1 (inv Z))), (sb (mu Y (mu 1 (inv Z))) 1)]) (stP (a := (mu X (mu 1 (inv Z)))) (b := (sb (mu Y (mu 1 (inv Z))) 1)) (c := ces [0, 0]) 31 (by rw [ces_size]; rfl)) rfl (by kernel_rfl) rfl (by kernel_rfl) (by kernel_rfl) (by kernel_rfl) (by kernel_rfl) (by kernel_rfl)) ?_
    exact ok_nil
  clear h; intro β a w h
  refine sym_then ?_
  refine wp_ret ?_
  exact sym_retc (b := 1) (t0 := 31) (c := ces [(mu X (mu 1 (inv Z))), (sb (mu Y (mu 1 (inv Z))) 1)]) h Try.results49 (by kernel_rfl) (by kernel_rfl) (by kernel_rfl) Try.underlying31 rfl (by rw [ces_size]; kernel_rfl) (fun hb => ⟨rfl, hb⟩)

end Go.Proofs.Ytgiemldmphbolaa

namespace Go.Proofs.Ytgiemldmphbolaa
open Go.RowKit
def sLe (x1 y1 x2 y2 : Nat) : Nat := mu (sb y1 x1) (sb y2 x2)
def sMo (x1 y1 x2 y2 : Nat) : Nat := mu (ad y1 x1) (ad y2 x2)
def sOn (z1 z2 : Nat) : Nat := ad (mu z1 z2) (mu z1 z2)
def sPr (d t1 t2 : Nat) : Nat := ad (mu (mu t1 t2) d) (mu (mu t1 t2) d)

set_option maxHeartbeats 4000000 in
theorem sum_r {d x1 y1 z1 t1 x2 y2 z2 t2 : Nat} (hd : d < pp) (hx1 : x1 < pp) (hy1 : y1 < pp) (hz1 : z1 < pp) (ht1 : t1 < pp) (hx2 : x2 < pp) (hy2 : y2 < pp) (hz2 : z2 < pp) (ht2 : t2 < pp) (W0 : World) : Calls Try.prog 47 #[.agg (ces [d]), .agg (ces [x1, y1, z1, t1]), .agg (ces [x2, y2, z2, t2])] W0 fun e w' => e = .returned (.agg (ces [mu (sb (mu (ad y1 x1) (ad y2 x2)) (mu (sb y1 x1) (sb y2 x2))) (sb (ad (mu z1 z2) (mu z1 z2)) (ad (mu (mu t1 t2) d) (mu (mu t1 t2) d))), mu (ad (mu (ad y1 x1) (ad y2 x2)) (mu (sb y1 x1) (sb y2 x2))) (ad (ad (mu z1 z2) (mu z1 z2)) (ad (mu (mu t1 t2) d) (mu (mu t1 t2) d))), mu (ad (ad (mu z1 z2) (mu z1 z2)) (ad (mu (mu t1 t2) d) (mu (mu t1 t2) d))) (sb (ad (mu z1 z2) (mu z1 z2)) (ad (mu (mu t1 t2) d) (mu (mu t1 t2) d))), mu (sb (mu (ad y1 x1) (ad y2 x2)) (mu (sb y1 x1) (sb y2 x2))) (ad (mu (ad y1 x1) (ad y2 x2)) (mu (sb y1 x1) (sb y2 x2)))])) ∧ Below W0.heap.size W0 w' := by
  refine sym_enter Try.func47 Try.ntmps47 rfl [.inl (.agg (ces [d])), .inl (.agg (ces [x1, y1, z1, t1])), .inl (.agg (ces [x2, y2, z2, t2])), uu, uu, uu, uu, uu, uu, uu, uu, uu, uu, uu, uu, uu, uu, uu, uu, uu, uu, uu, uu, uu, uu, uu, uu, uu, uu, uu, uu, uu, uu, uu, uu, uu, uu, uu, uu, uu, uu, uu, uu, uu, uu, uu, uu, uu, uu, uu, uu, uu, uu, uu, uu, uu, uu, uu, uu, uu, uu, uu, uu, uu, uu, uu, uu, uu, uu, uu, uu, uu, uu, uu, uu, uu, uu] (by kernel_rfl) (by kernel_rfl) ?_
  intro β a h
  refine sym_seq ?_
  refine St.region h [.inl (.agg (ces [d])), .inl (.agg (ces [x1, y1, z1, t1])), .inl (.agg (ces [x2, y2, z2, t2])), .inr (0, 0), .inr (1, 0), .inr (2, 0), .inr (3, 0), uu, uu, uu, uu, uu, uu, uu, uu, uu, uu, uu, uu, uu, uu, uu, uu, uu, uu, uu, uu, uu, uu, uu, uu, uu, uu, uu, uu, uu, uu, uu, uu, uu, uu, uu, uu, uu, uu, uu, uu, uu, uu, uu, uu, uu, uu, uu, uu, uu, uu, uu, uu, uu, uu, uu, uu, uu, uu, uu, uu, uu, uu, uu, uu, uu, uu, uu, uu, uu, uu] [(ces [d], 75), (ces [x1, y1, z1, t1], 78), (ces [x2, y2, z2, t2], 78), (ces [0, 0, 0, 0], 78)] [(ces [d], 75), (ces [x1, y1, z1, t1], 78), (ces [x2, y2, z2, t2], 78), (ces [0, 0, 0, 0], 78)] [#[], #[], #[], #[]] [⟨some 0, none, none, false⟩, ⟨some 1, none, none, false⟩, ⟨some 2, none, none, false⟩, ⟨some 3, none, none, false⟩] (by kernel_rfl) (by kernel_rfl) (by kernel_rfl) (by kernel_rfl) (by kernel_rfl) (by kernel_rfl) (by kernel_rfl) (by kernel_rfl) ?_ ?_
  · refine ok_cons (ok_box (b := 0) (u := .agg (ces [d])) (bxL (a := d)) rfl (by kernel_rfl) rfl (by kernel_rfl) (by kernel_rfl) (by kernel_rfl) (by kernel_rfl)) ?_
    refine ok_cons (ok_box (b := 1) (u := .agg (ces [x1, y1, z1, t1])) (bxS (a := x1) (b := y1) (c := z1) (d := t1)) rfl (by kernel_rfl) rfl (by kernel_rfl) (by kernel_rfl) (by kernel_rfl) (by kernel_rfl)) ?_
    refine ok_cons (ok_box (b := 2) (u := .agg (ces [x2, y2, z2, t2])) (bxS (a := x2) (b := y2) (c := z2) (d := t2)) rfl (by kernel_rfl) rfl (by kernel_rfl) (by kernel_rfl) (by kernel_rfl) (by kernel_rfl)) ?_
    refine ok_cons (ok_alloc (b := 3) alS rfl (by kernel_rfl) rfl (by kernel_rfl) (by kernel_rfl)) ?_
    exact ok_nil
  clear h; intro β a w h
  refine sym_then ?_
  refine sym_seq ?_
  refine St.region h [.inl (.agg (ces [d])), .inl (.agg (ces [x1, y1, z1, t1])), .inl (.agg (ces [x2, y2, z2, t2])), .inr (0, 0), .inr (1, 0), .inr (2, 0), .inr (3, 0), .inr (4, 0), uu, uu, uu, uu, uu, uu, uu, .inr (1, 4), .inl (el (dig y1)), .inr (1, 0), .inl (el (dig x1)), .inl (el (dig (sb y1 x1))), .inr (2, 4), .inl (el (dig y2)), .inr (2, 0), .inl (el (dig x2)), .inl (el (dig (sb y2 x2))), .inl (el (dig (mu (sb y1 x1) (sb y2 x2)))), uu, uu, uu, uu, uu, uu, uu, uu, uu, uu, uu, uu, uu, uu, uu, uu, uu, uu, uu, uu, uu, uu, uu, uu, uu, uu, uu, uu, uu, uu, uu, uu, uu, uu, uu, uu, uu, uu, uu, uu, uu, uu, uu, uu, uu, uu, uu, uu, uu, uu, uu] [(ces [d], 75), (ces [x1, y1, z1, t1], 78), (ces [x2, y2, z2, t2], 78), (ces [0, 0, 0, 0], 78), (ce (mu (sb y1 x1) (sb y2 x2)), 29)] [(ces [d], 75), (ces [x1, y1, z1, t1], 78), (ces [x2, y2, z2, t2], 78), (ces [0, 0, 0, 0], 78), (ce 0, 29)] [#[], #[], #[], #[], ce (mu (sb y1 x1) (sb y2 x2))] [nn, ⟨none, none, some 1, false⟩, nn, ⟨none, none, some 1, false⟩, nn, nn, ⟨none, none, some 2, false⟩, nn, ⟨none, none, some 2, false⟩, nn, nn, ⟨some 4, none, none, false⟩, ⟨none, some 4, none, false⟩] (by kernel_rfl) (by kernel_rfl) (by kernel_rfl) (by kernel_rfl) (by kernel_rfl) (by kernel_rfl) (by kernel_rfl) (by kernel_rfl) ?_ ?_
  · refine ok_cons (ok_faddr (b := 1) (off := 0) (off' := 4) (fun w q => by kernel_rfl) rfl (by kernel_rfl) rfl (by kernel_rfl) (by kernel_rfl)) ?_
    refine ok_cons (ok_load (b := 1) (off := 4) (c := ces [x1, y1, z1, t1]) (v := el (dig y1)) (ld_ces (l := [x1, y1, z1, t1]) (k := 1) (n := y1) 78 rfl) rfl (by kernel_rfl) rfl (by kernel_rfl) (by kernel_rfl) (by kernel_rfl)) ?_
    refine ok_cons (ok_faddr (b := 1) (off := 0) (off' := 0) (fun w q => by kernel_rfl) rfl (by kernel_rfl) rfl (by kernel_rfl) (by kernel_rfl)) ?_
    refine ok_cons (ok_load (b := 1) (off := 0) (c := ces [x1, y1, z1, t1]) (v := el (dig x1)) (ld_ces (l := [x1, y1, z1, t1]) (k := 0) (n := x1) 78 rfl) rfl (by kernel_rfl) rfl (by kernel_rfl) (by kernel_rfl) (by kernel_rfl)) ?_
    refine ok_cons (ok_call (vs := #[el (dig y1), el (dig x1)]) (R := el (dig (sb y1 x1))) (fun w => minus_m hy1 hx1 w) rfl (by kernel_rfl) rfl (by kernel_rfl) (by kernel_rfl) (by kernel_rfl) (fun w => by kernel_rfl)) ?_
    refine ok_cons (ok_faddr (b := 2) (off := 0) (off' := 4) (fun w q => by kernel_rfl) rfl (by kernel_rfl) rfl (by kernel_rfl) (by kernel_rfl)) ?_
    refine ok_cons (ok_load (b := 2) (off := 4) (c := ces [x2, y2, z2, t2]) (v := el (dig y2)) (ld_ces (l := [x2, y2, z2, t2]) (k := 1) (n := y2) 78 rfl) rfl (by kernel_rfl) rfl (by kernel_rfl) (by kernel_rfl) (by kernel_rfl)) ?_
    refine ok_cons (ok_faddr (b := 2) (off := 0) (off' := 0) (fun w q => by kernel_rfl) rfl (by kernel_rfl) rfl (by kernel_rfl) (by kernel_rfl)) ?_
    refine ok_cons (ok_load (b := 2) (off := 0) (c := ces [x2, y2, z2, t2]) (v := el (dig x2)) (ld_ces (l := [x2, y2, z2, t2]) (k := 0) (n := x2) 78 rfl) rfl (by kernel_rfl) rfl (by kernel_rfl) (by kernel_rfl) (by kernel_rfl)) ?_
    refine ok_cons (ok_call (vs := #[el (dig y2), el (dig x2)]) (R := el (dig (sb y2 x2))) (fun w => minus_m hy2 hx2 w) rfl (by kernel_rfl) rfl (by kernel_rfl) (by kernel_rfl) (by kernel_rfl) (fun w => by kernel_rfl)) ?_
    refine ok_cons (ok_call (vs := #[el (dig (sb y1 x1)), el (dig (sb y2 x2))]) (R := el (dig (mu (sb y1 x1) (sb y2 x2)))) (fun w => times_m (sb_lt _ _) (sb_lt _ _) w) rfl (by kernel_rfl) rfl (by kernel_rfl) (by kernel_rfl) (by kernel_rfl) (fun w => by kernel_rfl)) ?_
    refine ok_cons (ok_alloc (b := 4) alE rfl (by kernel_rfl) rfl (by kernel_rfl) (by kernel_rfl)) ?_
    refine ok_cons (ok_store (b := 4) (off := 0) (u := el (dig (mu (sb y1 x1) (sb y2 x2)))) (c := ce 0) (n := ce (mu (sb y1 x1) (sb y2 x2))) (stE (n := (mu (sb y1 x1) (sb y2 x2))) (c := ce 0) 29 (ce_size _)) rfl (by kernel_rfl) rfl (by kernel_rfl) (by kernel_rfl) (by kernel_rfl) (by kernel_rfl) (by kernel_rfl)) ?_
    exact ok_nil
  clear h; intro β a w h
  refine sym_then ?_
  refine sym_seq ?_
  refine St.region h [.inl (.agg (ces [d])), .inl (.agg (ces [x1, y1, z1, t1])), .inl (.agg (ces [x2, y2, z2, t2])), .inr (0, 0), .inr (1, 0), .inr (2, 0), .inr (3, 0), .inr (4, 0), .inr (5, 0), uu, uu, uu, uu, uu, uu, .inr (1, 4), .inl (el (dig y1)), .inr (1, 0), .inl (el (dig x1)), .inl (el (dig (sb y1 x1))), .inr (2, 4), .inl (el (dig y2)), .inr (2, 0), .inl (el (dig x2)), .inl (el (dig (sb y2 x2))), .inl (el (dig (mu (sb y1 x1) (sb y2 x2)))), .inr (1, 4), .inl (el (dig y1)), .inr (1, 0), .inl (el (dig x1)), .inl (el (dig (ad y1 x1))), .inr (2, 4), .inl (el (dig y2)), .inr (2, 0), .inl (el (dig x2)), .inl (el (dig (ad y2 x2))), .inl (el (dig (mu (ad y1 x1) (ad y2 x2)))), uu, uu, uu, uu, uu, uu, uu, uu, uu, uu, uu, uu, uu, uu, uu, uu, uu, uu, uu, uu, uu, uu, uu, uu, uu, uu, uu, uu, uu, uu, uu, uu, uu, uu, uu, uu, uu, uu, uu, uu] [(ces [d], 75), (ces [x1, y1, z1, t1], 78), (ces [x2, y2, z2, t2], 78), (ces [0, 0, 0, 0], 78), (ce (mu (sb y1 x1) (sb y2 x2)), 29), (ce (mu (ad y1 x1) (ad y2 x2)), 29)] [(ces [d], 75), (ces [x1, y1, z1, t1], 78), (ces [x2, y2, z2, t2], 78), (ces [0, 0, 0, 0], 78), (ce (mu (sb y1 x1) (sb y2 x2)), 29), (ce 0, 29)] [#[], #[], #[], #[], #[], ce (mu (ad y1 x1) (ad y2 x2))] [nn, ⟨none, none, some 1, false⟩, nn, ⟨none, none, some 1, false⟩, nn, nn, ⟨none, none, some 2, false⟩, nn, ⟨none, none, some 2, false⟩, nn, nn, ⟨some 5, none, none, false⟩, ⟨none, some 5, none, false⟩] (by kernel_rfl) (by kernel_rfl) (by kernel_rfl) (by kernel_rfl) (by kernel_rfl) (by kernel_rfl) (by kernel_rfl) (by kernel_rfl) ?_ ?_
  · refine ok_cons (ok_faddr (b := 1) (off := 0) (off' := 4) (fun w q => by kernel_rfl) rfl (by kernel_rfl) rfl (by kernel_rfl) (by kernel_rfl)) ?_
    refine ok_cons (ok_load (b := 1) (off := 4) (c := ces [x1, y1, z1, t1]) (v := el (dig y1)) (ld_ces (l := [x1, y1, z1, t1]) (k := 1) (n := y1) 78 rfl) rfl (by kernel_rfl) rfl (by kernel_rfl) (by kernel_rfl) (by kernel_rfl)) ?_
    refine ok_cons (ok_faddr (b := 1) (off := 0) (off' := 0) (fun w q => by kernel_rfl) rfl (by kernel_rfl) rfl (by kernel_rfl) (by kernel_rfl)) ?_
    refine ok_cons (ok_load (b := 1) (off := 0) (c := ces [x1, y1, z1, t1]) (v := el (dig x1)) (ld_ces (l := [x1, y1, z1, t1]) (k := 0) (n := x1) 78 rfl) rfl (by kernel_rfl) rfl (by kernel_rfl) (by kernel_rfl) (by kernel_rfl)) ?_
    refine ok_cons (ok_call (vs := #[el (dig y1), el (dig x1)]) (R := el (dig (ad y1 x1))) (fun w => plus_m hy1 hx1 w) rfl (by kernel_rfl) rfl (by kernel_rfl) (by kernel_rfl) (by kernel_rfl) (fun w => by kernel_rfl)) ?_
    refine ok_cons (ok_faddr (b := 2) (off := 0) (off' := 4) (fun w q => by kernel_rfl) rfl (by kernel_rfl) rfl (by kernel_rfl) (by kernel_rfl)) ?_
    refine ok_cons (ok_load (b := 2) (off := 4) (c := ces [x2, y2, z2, t2]) (v := el (dig y2)) (ld_ces (l := [x2, y2, z2, t2]) (k := 1) (n := y2) 78 rfl) rfl (by kernel_rfl) rfl (by kernel_rfl) (by kernel_rfl) (by kernel_rfl)) ?_
    refine ok_cons (ok_faddr (b := 2) (off := 0) (off' := 0) (fun w q => by kernel_rfl) rfl (by kernel_rfl) rfl (by kernel_rfl) (by kernel_rfl)) ?_
    refine ok_cons (ok_load (b := 2) (off := 0) (c := ces [x2, y2, z2, t2]) (v := el (dig x2)) (ld_ces (l := [x2, y2, z2, t2]) (k := 0) (n := x2) 78 rfl) rfl (by kernel_rfl) rfl (by kernel_rfl) (by kernel_rfl) (by kernel_rfl)) ?_
    refine ok_cons (ok_call (vs := #[el (dig y2), el (dig x2)]) (R := el (dig (ad y2 x2))) (fun w => plus_m hy2 hx2 w) rfl (by kernel_rfl) rfl (by kernel_rfl) (by kernel_rfl) (by kernel_rfl) (fun w => by kernel_rfl)) ?_
    refine ok_cons (ok_call (vs := #[el (dig (ad y1 x1)), el (dig (ad y2 x2))]) (R := el (dig (mu (ad y1 x1) (ad y2 x2)))) (fun w => times_m (ad_lt _ _) (ad_lt _ _) w) rfl (by kernel_rfl) rfl (by kernel_rfl) (by kernel_rfl) (by kernel_rfl) (fun w => by kernel_rfl)) ?_
    refine ok_cons (ok_alloc (b := 5) alE rfl (by kernel_rfl) rfl (by kernel_rfl) (by kernel_rfl)) ?_
    refine ok_cons (ok_store (b := 5) (off := 0) (u := el (dig (mu (ad y1 x1) (ad y2 x2)))) (c := ce 0) (n := ce (mu (ad y1 x1) (ad y2 x2))) (stE (n := (mu (ad y1 x1) (ad y2 x2))) (c := ce 0) 29 (ce_size _)) rfl (by kernel_rfl) rfl (by kernel_rfl) (by kernel_rfl) (by kernel_rfl) (by kernel_rfl) (by kernel_rfl)) ?_
    exact ok_nil
  clear h; intro β a w h
  refine sym_then ?_
  refine sym_seq ?_
  refine St.region h [.inl (.agg (ces [d])), .inl (.agg (ces [x1, y1, z1, t1])), .inl (.agg (ces [x2, y2, z2, t2])), .inr (0, 0), .inr (1, 0), .inr (2, 0), .inr (3, 0), .inr (4, 0), .inr (5, 0), .inr (6, 0), uu, uu, uu, uu, uu, .inr (1, 4), .inl (el (dig y1)), .inr (1, 0), .inl (el (dig x1)), .inl (el (dig (sb y1 x1))), .inr (2, 4), .inl (el (dig y2)), .inr (2, 0), .inl (el (dig x2)), .inl (el (dig (sb y2 x2))), .inl (el (dig (mu (sb y1 x1) (sb y2 x2)))), .inr (1, 4), .inl (el (dig y1)), .inr (1, 0), .inl (el (dig x1)), .inl (el (dig (ad y1 x1))), .inr (2, 4), .inl (el (dig y2)), .inr (2, 0), .inl (el (dig x2)), .inl (el (dig (ad y2 x2))), .inl (el (dig (mu (ad y1 x1) (ad y2 x2)))), .inr (1, 8), .inl (el (dig z1)), .inr (2, 8), .inl (el (dig z2)), .inl (el (dig (mu z1 z2))), .inl (el (dig (ad (mu z1 z2) (mu z1 z2)))), uu, uu, uu, uu, uu, uu, uu, uu, uu, uu, uu, uu, uu, uu, uu, uu, uu, uu, uu, uu, uu, uu, uu, uu, uu, uu, uu, uu, uu, uu, uu, uu, uu, uu] [(ces [d], 75), (ces [x1, y1, z1, t1], 78), (ces [x2, y2, z2, t2], 78), (ces [0, 0, 0, 0], 78), (ce (mu (sb y1 x1) (sb y2 x2)), 29), (ce (mu (ad y1 x1) (ad y2 x2)), 29), (ce (ad (mu z1 z2) (mu z1 z2)), 29)] [(ces [d], 75), (ces [x1, y1, z1, t1], 78), (ces [x2, y2, z2, t2], 78), (ces [0, 0, 0, 0], 78), (ce (mu (sb y1 x1) (sb y2 x2)), 29), (ce (mu (ad y1 x1) (ad y2 x2)), 29), (ce 0, 29)] [#[], #[], #[], #[], #[], #[], ce (ad (mu z1 z2) (mu z1 z2))] [nn, ⟨none, none, some 1, false⟩, nn, ⟨none, none, some 2, false⟩, nn, nn, ⟨some 6, none, none, false⟩, ⟨none, some 6, none, false⟩] (by kernel_rfl) (by kernel_rfl) (by kernel_rfl) (by kernel_rfl) (by kernel_rfl) (by kernel_rfl) (by kernel_rfl) (by kernel_rfl) ?_ ?_
  · refine ok_cons (ok_faddr (b := 1) (off := 0) (off' := 8) (fun w q => by kernel_rfl) rfl (by kernel_rfl) rfl (by kernel_rfl) (by kernel_rfl)) ?_
    refine ok_cons (ok_load (b := 1) (off := 8) (c := ces [x1, y1, z1, t1]) (v := el (dig z1)) (ld_ces (l := [x1, y1, z1, t1]) (k := 2) (n := z1) 78 rfl) rfl (by kernel_rfl) rfl (by kernel_rfl) (by kernel_rfl) (by kernel_rfl)) ?_
    refine ok_cons (ok_faddr (b := 2) (off := 0) (off' := 8) (fun w q => by kernel_rfl) rfl (by kernel_rfl) rfl (by kernel_rfl) (by kernel_rfl)) ?_
    refine ok_cons (ok_load (b := 2) (off := 8) (c := ces [x2, y2, z2, t2]) (v := el (dig z2)) (ld_ces (l := [x2, y2, z2, t2]) (k := 2) (n := z2) 78 rfl) rfl (by kernel_rfl) rfl (by kernel_rfl) (by kernel_rfl) (by kernel_rfl)) ?_
    refine ok_cons (ok_call (vs := #[el (dig z1), el (dig z2)]) (R := el (dig (mu z1 z2))) (fun w => times_m hz1 hz2 w) rfl (by kernel_rfl) rfl (by kernel_rfl) (by kernel_rfl) (by kernel_rfl) (fun w => by kernel_rfl)) ?_
    refine ok_cons (ok_call (vs := #[el (dig (mu z1 z2))]) (R := el (dig (ad (mu z1 z2) (mu z1 z2)))) (fun w => twice_r (mu_lt _ _) w) rfl (by kernel_rfl) rfl (by kernel_rfl) (by kernel_rfl) (by kernel_rfl) (fun w => by kernel_rfl)) ?_
    refine ok_cons (ok_alloc (b := 6) alE rfl (by kernel_rfl) rfl (by kernel_rfl) (by kernel_rfl)) ?_
    refine ok_cons (ok_store (b := 6) (off := 0) (u := el (dig (ad (mu z1 z2) (mu z1 z2)))) (c := ce 0) (n := ce (ad (mu z1 z2) (mu z1 z2))) (stE (n := (ad (mu z1 z2) (mu z1 z2))) (c := ce 0) 29 (ce_size _)) rfl (by kernel_rfl) rfl (by kernel_rfl) (by kernel_rfl) (by kernel_rfl) (by kernel_rfl) (by kernel_rfl)) ?_
    exact ok_nil
  clear h; intro β a w h
  refine sym_then ?_
  refine sym_seq ?_
  refine St.region h [.inl (.agg (ces [d])), .inl (.agg (ces [x1, y1, z1, t1])), .inl (.agg (ces [x2, y2, z2, t2])), .inr (0, 0), .inr (1, 0), .inr (2, 0), .inr (3, 0), .inr (4, 0), .inr (5, 0), .inr (6, 0), .inr (7, 0), uu, uu, uu, uu, .inr (1, 4), .inl (el (dig y1)), .inr (1, 0), .inl (el (dig x1)), .inl (el (dig (sb y1 x1))), .inr (2, 4), .inl (el (dig y2)), .inr (2, 0), .inl (el (dig x2)), .inl (el (dig (sb y2 x2))), .inl (el (dig (mu (sb y1 x1) (sb y2 x2)))), .inr (1, 4), .inl (el (dig y1)), .inr (1, 0), .inl (el (dig x1)), .inl (el (dig (ad y1 x1))), .inr (2, 4), .inl (el (dig y2)), .inr (2, 0), .inl (el (dig x2)), .inl (el (dig (ad y2 x2))), .inl (el (dig (mu (ad y1 x1) (ad y2 x2)))), .inr (1, 8), .inl (el (dig z1)), .inr (2, 8), .inl (el (dig z2)), .inl (el (dig (mu z1 z2))), .inl (el (dig (ad (mu z1 z2) (mu z1 z2)))), .inr (1, 12), .inl (el (dig t1)), .inr (2, 12), .inl (el (dig t2)), .inl (el (dig (mu t1 t2))), .inr (0, 0), .inl (el (dig d)), .inl (el (dig (mu (mu t1 t2) d))), .inl (el (dig (ad (mu (mu t1 t2) d) (mu (mu t1 t2) d)))), uu, uu, uu, uu, uu, uu, uu, uu, uu, uu, uu, uu, uu, uu, uu, uu, uu, uu, uu, uu, uu, uu, uu, uu, uu] [(ces [d], 75), (ces [x1, y1, z1, t1], 78), (ces [x2, y2, z2, t2], 78), (ces [0, 0, 0, 0], 78), (ce (mu (sb y1 x1) (sb y2 x2)), 29), (ce (mu (ad y1 x1) (ad y2 x2)), 29), (ce (ad (mu z1 z2) (mu z1 z2)), 29), (ce (ad (mu (mu t1 t2) d) (mu (mu t1 t2) d)), 29)] [(ces [d], 75), (ces [x1, y1, z1, t1], 78), (ces [x2, y2, z2, t2], 78), (ces [0, 0, 0, 0], 78), (ce (mu (sb y1 x1) (sb y2 x2)), 29), (ce (mu (ad y1 x1) (ad y2 x2)), 29), (ce (ad (mu z1 z2) (mu z1 z2)), 29), (ce 0, 29)] [#[], #[], #[], #[], #[], #[], #[], ce (ad (mu (mu t1 t2) d) (mu (mu t1 t2) d))] [nn, ⟨none, none, some 1, false⟩, nn, ⟨none, none, some 2, false⟩, nn, nn, ⟨none, none, some 0, false⟩, nn, nn, ⟨some 7, none, none, false⟩, ⟨none, some 7, none, false⟩] (by kernel_rfl) (by kernel_rfl) (by kernel_rfl) (by kernel_rfl) (by kernel_rfl) (by kernel_rfl) (by kernel_rfl) (by kernel_rfl) ?_ ?_
  · refine ok_cons (ok_faddr (b := 1) (off := 0) (off' := 12) (fun w q => by kernel_rfl) rfl (by kernel_rfl) rfl (by kernel_rfl) (by kernel_rfl)) ?_
    refine ok_cons (ok_load (b := 1) (off := 12) (c := ces [x1, y1, z1, t1]) (v := el (dig t1)) (ld_ces (l := [x1, y1, z1, t1]) (k := 3) (n := t1) 78 rfl) rfl (by kernel_rfl) rfl (by kernel_rfl) (by kernel_rfl) (by kernel_rfl)) ?_
    refine ok_cons (ok_faddr (b := 2) (off := 0) (off' := 12) (fun w q => by kernel_rfl) rfl (by kernel_rfl) rfl (by kernel_rfl) (by kernel_rfl)) ?_
    refine ok_cons (ok_load (b := 2) (off := 12) (c := ces [x2, y2, z2, t2]) (v := el (dig t2)) (ld_ces (l := [x2, y2, z2, t2]) (k := 3) (n := t2) 78 rfl) rfl (by kernel_rfl) rfl (by kernel_rfl) (by kernel_rfl) (by kernel_rfl)) ?_
    refine ok_cons (ok_call (vs := #[el (dig t1), el (dig t2)]) (R := el (dig (mu t1 t2))) (fun w => times_m ht1 ht2 w) rfl (by kernel_rfl) rfl (by kernel_rfl) (by kernel_rfl) (by kernel_rfl) (fun w => by kernel_rfl)) ?_
    refine ok_cons (ok_faddr (b := 0) (off := 0) (off' := 0) (fun w q => by kernel_rfl) rfl (by kernel_rfl) rfl (by kernel_rfl) (by kernel_rfl)) ?_
    refine ok_cons (ok_load (b := 0) (off := 0) (c := ces [d]) (v := el (dig d)) (ld_ces (l := [d]) (k := 0) (n := d) 75 rfl) rfl (by kernel_rfl) rfl (by kernel_rfl) (by kernel_rfl) (by kernel_rfl)) ?_
    refine ok_cons (ok_call (vs := #[el (dig (mu t1 t2)), el (dig d)]) (R := el (dig (mu (mu t1 t2) d))) (fun w => times_m (mu_lt _ _) hd w) rfl (by kernel_rfl) rfl (by kernel_rfl) (by kernel_rfl) (by kernel_rfl) (fun w => by kernel_rfl)) ?_
    refine ok_cons (ok_call (vs := #[el (dig (mu (mu t1 t2) d))]) (R := el (dig (ad (mu (mu t1 t2) d) (mu (mu t1 t2) d)))) (fun w => twice_r (mu_lt _ _) w) rfl (by kernel_rfl) rfl (by kernel_rfl) (by kernel_rfl) (by kernel_rfl) (fun w => by kernel_rfl)) ?_
    refine ok_cons (ok_alloc (b := 7) alE rfl (by kernel_rfl) rfl (by kernel_rfl) (by kernel_rfl)) ?_
    refine ok_cons (ok_store (b := 7) (off := 0) (u := el (dig (ad (mu (mu t1 t2) d) (mu (mu t1 t2) d)))) (c := ce 0) (n := ce (ad (mu (mu t1 t2) d) (mu (mu t1 t2) d))) (stE (n := (ad (mu (mu t1 t2) d) (mu (mu t1 t2) d))) (c := ce 0) 29 (ce_size _)) rfl (by kernel_rfl) rfl (by kernel_rfl) (by kernel_rfl) (by kernel_rfl) (by kernel_rfl) (by kernel_rfl)) ?_
    exact ok_nil
  clear h; intro β a w h
  refine sym_then ?_
  refine sym_seq ?_
  refine St.region h [.inl (.agg (ces [d])), .inl (.agg (ces [x1, y1, z1, t1])), .inl (.agg (ces [x2, y2, z2, t2])), .inr (0, 0), .inr (1, 0), .inr (2, 0), .inr (3, 0), .inr (4, 0), .inr (5, 0), .inr (6, 0), .inr (7, 0), .inr (8, 0), .inr (9, 0), uu, uu, .inr (1, 4), .inl (el (dig y1)), .inr (1, 0), .inl (el (dig x1)), .inl (el (dig (sb y1 x1))), .inr (2, 4), .inl (el (dig y2)), .inr (2, 0), .inl (el (dig x2)), .inl (el (dig (sb y2 x2))), .inl (el (dig (mu (sb y1 x1) (sb y2 x2)))), .inr (1, 4), .inl (el (dig y1)), .inr (1, 0), .inl (el (dig x1)), .inl (el (dig (ad y1 x1))), .inr (2, 4), .inl (el (dig y2)), .inr (2, 0), .inl (el (dig x2)), .inl (el (dig (ad y2 x2))), .inl (el (dig (mu (ad y1 x1) (ad y2 x2)))), .inr (1, 8), .inl (el (dig z1)), .inr (2, 8), .inl (el (dig z2)), .inl (el (dig (mu z1 z2))), .inl (el (dig (ad (mu z1 z2) (mu z1 z2)))), .inr (1, 12), .inl (el (dig t1)), .inr (2, 12), .inl (el (dig t2)), .inl (el (dig (mu t1 t2))), .inr (0, 0), .inl (el (dig d)), .inl (el (dig (mu (mu t1 t2) d))), .inl (el (dig (ad (mu (mu t1 t2) d) (mu (mu t1 t2) d)))), .inl (el (dig (mu (ad y1 x1) (ad y2 x2)))), .inl (el (dig (mu (sb y1 x1) (sb y2 x2)))), .inl (el (dig (sb (mu (ad y1 x1) (ad y2 x2)) (mu (sb y1 x1) (sb y2 x2))))), .inl (el (dig (mu (ad y1 x1) (ad y2 x2)))), .inl (el (dig (mu (sb y1 x1) (sb y2 x2)))), .inl (el (dig (ad (mu (ad y1 x1) (ad y2 x2)) (mu (sb y1 x1) (sb y2 x2))))), uu, uu, uu, uu, uu, uu, uu, uu, uu, uu, uu, uu, uu, uu, uu, uu, uu, uu, uu] [(ces [d], 75), (ces [x1, y1, z1, t1], 78), (ces [x2, y2, z2, t2], 78), (ces [0, 0, 0, 0], 78), (ce (mu (sb y1 x1) (sb y2 x2)), 29), (ce (mu (ad y1 x1) (ad y2 x2)), 29), (ce (ad (mu z1 z2) (mu z1 z2)), 29), (ce (ad (mu (mu t1 t2) d) (mu (mu t1 t2) d)), 29), (ce (sb (mu (ad y1 x1) (ad y2 x2)) (mu (sb y1 x1) (sb y2 x2))), 29), (ce (ad (mu (ad y1 x1) (ad y2 x2)) (mu (sb y1 x1) (sb y2 x2))), 29)] [(ces [d], 75), (ces [x1, y1, z1, t1], 78), (ces [x2, y2, z2, t2], 78), (ces [0, 0, 0, 0], 78), (ce (mu (sb y1 x1) (sb y2 x2)), 29), (ce (mu (ad y1 x1) (ad y2 x2)), 29), (ce (ad (mu z1 z2) (mu z1 z2)), 29), (ce (ad (mu (mu t1 t2) d) (mu (mu t1 t2) d)), 29), (ce 0, 29), (ce 0, 29)] [#[], #[], #[], #[], #[], #[], #[], #[], ce (sb (mu (ad y1 x1) (ad y2 x2)) (mu (sb y1 x1) (sb y2 x2))), ce (ad (mu (ad y1 x1) (ad y2 x2)) (mu (sb y1 x1) (sb y2 x2)))] [⟨none, none, some 5, false⟩, ⟨none, none, some 4, false⟩, nn, ⟨none, none, some 5, false⟩, ⟨none, none, some 4, false⟩, nn, ⟨some 8, none, none, false⟩, ⟨some 9, none, none, false⟩, ⟨none, some 8, none, false⟩, ⟨none, some 9, none, false⟩] (by kernel_rfl) (by kernel_rfl) (by kernel_rfl) (by kernel_rfl) (by kernel_rfl) (by kernel_rfl) (by kernel_rfl) (by kernel_rfl) ?_ ?_
  · refine ok_cons (ok_load (b := 5) (off := 0) (c := ce (mu (ad y1 x1) (ad y2 x2))) (v := el (dig (mu (ad y1 x1) (ad y2 x2)))) (ldE (n := (mu (ad y1 x1) (ad y2 x2))) 29) rfl (by kernel_rfl) rfl (by kernel_rfl) (by kernel_rfl) (by kernel_rfl)) ?_
    refine ok_cons (ok_load (b := 4) (off := 0) (c := ce (mu (sb y1 x1) (sb y2 x2))) (v := el (dig (mu (sb y1 x1) (sb y2 x2)))) (ldE (n := (mu (sb y1 x1) (sb y2 x2))) 29) rfl (by kernel_rfl) rfl (by kernel_rfl) (by kernel_rfl) (by kernel_rfl)) ?_
    refine ok_cons (ok_call (vs := #[el (dig (mu (ad y1 x1) (ad y2 x2))), el (dig (mu (sb y1 x1) (sb y2 x2)))]) (R := el (dig (sb (mu (ad y1 x1) (ad y2 x2)) (mu (sb y1 x1) (sb y2 x2))))) (fun w => minus_m (mu_lt _ _) (mu_lt _ _) w) rfl (by kernel_rfl) rfl (by kernel_rfl) (by kernel_rfl) (by kernel_rfl) (fun w => by kernel_rfl)) ?_
    refine ok_cons (ok_load (b := 5) (off := 0) (c := ce (mu (ad y1 x1) (ad y2 x2))) (v := el (dig (mu (ad y1 x1) (ad y2 x2)))) (ldE (n := (mu (ad y1 x1) (ad y2 x2))) 29) rfl (by kernel_rfl) rfl (by kernel_rfl) (by kernel_rfl) (by kernel_rfl)) ?_
    refine ok_cons (ok_load (b := 4) (off := 0) (c := ce (mu (sb y1 x1) (sb y2 x2))) (v := el (dig (mu (sb y1 x1) (sb y2 x2)))) (ldE (n := (mu (sb y1 x1) (sb y2 x2))) 29) rfl (by kernel_rfl) rfl (by kernel_rfl) (by kernel_rfl) (by kernel_rfl)) ?_
    refine ok_cons (ok_call (vs := #[el (dig (mu (ad y1 x1) (ad y2 x2))), el (dig (mu (sb y1 x1) (sb y2 x2)))]) (R := el (dig (ad (mu (ad y1 x1) (ad y2 x2)) (mu (sb y1 x1) (sb y2 x2))))) (fun w => plus_m (mu_lt _ _) (mu_lt _ _) w) rfl (by kernel_rfl) rfl (by kernel_rfl) (by kernel_rfl) (by kernel_rfl) (fun w => by kernel_rfl)) ?_
    refine ok_cons (ok_alloc (b := 8) alE rfl (by kernel_rfl) rfl (by kernel_rfl) (by kernel_rfl)) ?_
    refine ok_cons (ok_alloc (b := 9) alE rfl (by kernel_rfl) rfl (by kernel_rfl) (by kernel_rfl)) ?_
    refine ok_cons (ok_store (b := 8) (off := 0) (u := el (dig (sb (mu (ad y1 x1) (ad y2 x2)) (mu (sb y1 x1) (sb y2 x2))))) (c := ce 0) (n := ce (sb (mu (ad y1 x1) (ad y2 x2)) (mu (sb y1 x1) (sb y2 x2)))) (stE (n := (sb (mu (ad y1 x1) (ad y2 x2)) (mu (sb y1 x1) (sb y2 x2)))) (c := ce 0) 29 (ce_size _)) rfl (by kernel_rfl) rfl (by kernel_rfl) (by kernel_rfl) (by kernel_rfl) (by kernel_rfl) (by kernel_rfl)) ?_
    refine ok_cons (ok_store (b := 9) (off := 0) (u := el (dig (ad (mu (ad y1 x1) (ad y2 x2)) (mu (sb y1 x1) (sb y2 x2))))) (c := ce 0) (n := ce (ad (mu (ad y1 x1) (ad y2 x2)) (mu (sb y1 x1) (sb y2 x2)))) (stE (n := (ad (mu (ad y1 x1) (ad y2 x2)) (mu (sb y1 x1) (sb y2 x2)))) (c := ce 0) 29 (ce_size _)) rfl (by kernel_rfl) rfl (by kernel_rfl) (by kernel_rfl) (by kernel_rfl) (by kernel_rfl) (by kernel_rfl)) ?_
    exact ok_nil
  clear h; intro β a w h
  refine sym_then ?_
  refine sym_seq ?_
  refine St.region h [.inl (.agg (ces [d])), .inl (.agg (ces [x1, y1, z1, t1])), .inl (.agg (ces [x2, y2, z2, t2])), .inr (0, 0), .inr (1, 0), .inr (2, 0), .inr (3, 0), .inr (4, 0), .inr (5, 0), .inr (6, 0), .inr (7, 0), .inr (8, 0), .inr (9, 0), .inr (10, 0), .inr (11, 0), .inr (1, 4), .inl (el (dig y1)), .inr (1, 0), .inl (el (dig x1)), .inl (el (dig (sb y1 x1))), .inr (2, 4), .inl (el (dig y2)), .inr (2, 0), .inl (el (dig x2)), .inl (el (dig (sb y2 x2))), .inl (el (dig (mu (sb y1 x1) (sb y2 x2)))), .inr (1, 4), .inl (el (dig y1)), .inr (1, 0), .inl (el (dig x1)), .inl (el (dig (ad y1 x1))), .inr (2, 4), .inl (el (dig y2)), .inr (2, 0), .inl (el (dig x2)), .inl (el (dig (ad y2 x2))), .inl (el (dig (mu (ad y1 x1) (ad y2 x2)))), .inr (1, 8), .inl (el (dig z1)), .inr (2, 8), .inl (el (dig z2)), .inl (el (dig (mu z1 z2))), .inl (el (dig (ad (mu z1 z2) (mu z1 z2)))), .inr (1, 12), .inl (el (dig t1)), .inr (2, 12), .inl (el (dig t2)), .inl (el (dig (mu t1 t2))), .inr (0, 0), .inl (el (dig d)), .inl (el (dig (mu (mu t1 t2) d))), .inl (el (dig (ad (mu (mu t1 t2) d) (mu (mu t1 t2) d)))), .inl (el (dig (mu (ad y1 x1) (ad y2 x2)))), .inl (el (dig (mu (sb y1 x1) (sb y2 x2)))), .inl (el (dig (sb (mu (ad y1 x1) (ad y2 x2)) (mu (sb y1 x1) (sb y2 x2))))), .inl (el (dig (mu (ad y1 x1) (ad y2 x2)))), .inl (el (dig (mu (sb y1 x1) (sb y2 x2)))), .inl (el (dig (ad (mu (ad y1 x1) (ad y2 x2)) (mu (sb y1 x1) (sb y2 x2))))), .inl (el (dig (ad (mu z1 z2) (mu z1 z2)))), .inl (el (dig (ad (mu (mu t1 t2) d) (mu (mu t1 t2) d)))), .inl (el (dig (ad (ad (mu z1 z2) (mu z1 z2)) (ad (mu (mu t1 t2) d) (mu (mu t1 t2) d))))), .inl (el (dig (ad (mu z1 z2) (mu z1 z2)))), .inl (el (dig (ad (mu (mu t1 t2) d) (mu (mu t1 t2) d)))), .inl (el (dig (sb (ad (mu z1 z2) (mu z1 z2)) (ad (mu (mu t1 t2) d) (mu (mu t1 t2) d))))), uu, uu, uu, uu, uu, uu, uu, uu, uu, uu, uu, uu, uu] [(ces [d], 75), (ces [x1, y1, z1, t1], 78), (ces [x2, y2, z2, t2], 78), (ces [0, 0, 0, 0], 78), (ce (mu (sb y1 x1) (sb y2 x2)), 29), (ce (mu (ad y1 x1) (ad y2 x2)), 29), (ce (ad (mu z1 z2) (mu z1 z2)), 29), (ce (ad (mu (mu t1 t2) d) (mu (mu t1 t2) d)), 29), (ce (sb (mu (ad y1 x1) (ad y2 x2)) (mu (sb y1 x1) (sb y2 x2))), 29), (ce (ad (mu (ad y1 x1) (ad y2 x2)) (mu (sb y1 x1) (sb y2 x2))), 29), (ce (ad (ad (mu z1 z2) (mu z1 z2)) (ad (mu (mu t1 t2) d) (mu (mu t1 t2) d))), 29), (ce (sb (ad (mu z1 z2) (mu z1 z2)) (ad (mu (mu t1 t2) d) (mu (mu t1 t2) d))), 29)] [(ces [d], 75), (ces [x1, y1, z1, t1], 78), (ces [x2, y2, z2, t2], 78), (ces [0, 0, 0, 0], 78), (ce (mu (sb y1 x1) (sb y2 x2)), 29), (ce (mu (ad y1 x1) (ad y2 x2)), 29), (ce (ad (mu z1 z2) (mu z1 z2)), 29), (ce (ad (mu (mu t1 t2) d) (mu (mu t1 t2) d)), 29), (ce (sb (mu (ad y1 x1) (ad y2 x2)) (mu (sb y1 x1) (sb y2 x2))), 29), (ce (ad (mu (ad y1 x1) (ad y2 x2)) (mu (sb y1 x1) (sb y2 x2))), 29), (ce 0, 29), (ce 0, 29)] [#[], #[], #[], #[], #[], #[], #[], #[], #[], #[], ce (ad (ad (mu z1 z2) (mu z1 z2)) (ad (mu (mu t1 t2) d) (mu (mu t1 t2) d))), ce (sb (ad (mu z1 z2) (mu z1 z2)) (ad (mu (mu t1 t2) d) (mu (mu t1 t2) d)))] [⟨none, none, some 6, false⟩, ⟨none, none, some 7, false⟩, nn, ⟨none, none, some 6, false⟩, ⟨none, none, some 7, false⟩, nn, ⟨some 10, none, none, false⟩, ⟨some 11, none, none, false⟩, ⟨none, some 10, none, false⟩, ⟨none, some 11, none, false⟩] (by kernel_rfl) (by kernel_rfl) (by kernel_rfl) (by kernel_rfl) (by kernel_rfl) (by kernel_rfl) (by kernel_rfl) (by kernel_rfl) ?_ ?_
  · refine ok_cons (ok_load (b := 6) (off := 0) (c := ce (ad (mu z1 z2) (mu z1 z2))) (v := el (dig (ad (mu z1 z2) (mu z1 z2)))) (ldE (n := (ad (mu z1 z2) (mu z1 z2))) 29) rfl (by kernel_rfl) rfl (by kernel_rfl) (by kernel_rfl) (by kernel_rfl)) ?_
    refine ok_cons (ok_load (b := 7) (off := 0) (c := ce (ad (mu (mu t1 t2) d) (mu (mu t1 t2) d))) (v := el (dig (ad (mu (mu t1 t2) d) (mu (mu t1 t2) d)))) (ldE (n := (ad (mu (mu t1 t2) d) (mu (mu t1 t2) d))) 29) rfl (by kernel_rfl) rfl (by kernel_rfl) (by kernel_rfl) (by kernel_rfl)) ?_
    refine ok_cons (ok_call (vs := #[el (dig (ad (mu z1 z2) (mu z1 z2))), el (dig (ad (mu (mu t1 t2) d) (mu (mu t1 t2) d)))]) (R := el (dig (ad (ad (mu z1 z2) (mu z1 z2)) (ad (mu (mu t1 t2) d) (mu (mu t1 t2) d))))) (fun w => plus_m (ad_lt _ _) (ad_lt _ _) w) rfl (by kernel_rfl) rfl (by kernel_rfl) (by kernel_rfl) (by kernel_rfl) (fun w => by kernel_rfl)) ?_
    refine ok_cons (ok_load (b := 6) (off := 0) (c := ce (ad (mu z1 z2) (mu z1 z2))) (v := el (dig (ad (mu z1 z2) (mu z1 z2)))) (ldE (n := (ad (mu z1 z2) (mu z1 z2))) 29) rfl (by kernel_rfl) rfl (by kernel_rfl) (by kernel_rfl) (by kernel_rfl)) ?_
    refine ok_cons (ok_load (b := 7) (off := 0) (c := ce (ad (mu (mu t1 t2) d) (mu (mu t1 t2) d))) (v := el (dig (ad (mu (mu t1 t2) d) (mu (mu t1 t2) d)))) (ldE (n := (ad (mu (mu t1 t2) d) (mu (mu t1 t2) d))) 29) rfl (by kernel_rfl) rfl (by kernel_rfl) (by kernel_rfl) (by kernel_rfl)) ?_
    refine ok_cons (ok_call (vs := #[el (dig (ad (mu z1 z2) (mu z1 z2))), el (dig (ad (mu (mu t1 t2) d) (mu (mu t1 t2) d)))]) (R := el (dig (sb (ad (mu z1 z2) (mu z1 z2)) (ad (mu (mu t1 t2) d) (mu (mu t1 t2) d))))) (fun w => minus_m (ad_lt _ _) (ad_lt _ _) w) rfl (by kernel_rfl) rfl (by kernel_rfl) (by kernel_rfl) (by kernel_rfl) (fun w => by kernel_rfl)) ?_
    refine ok_cons (ok_alloc (b := 10) alE rfl (by kernel_rfl) rfl (by kernel_rfl) (by kernel_rfl)) ?_
    refine ok_cons (ok_alloc (b := 11) alE rfl (by kernel_rfl) rfl (by kernel_rfl) (by kernel_rfl)) ?_
    refine ok_cons (ok_store (b := 10) (off := 0) (u := el (dig (ad (ad (mu z1 z2) (mu z1 z2)) (ad (mu (mu t1 t2) d) (mu (mu t1 t2) d))))) (c := ce 0) (n := ce (ad (ad (mu z1 z2) (mu z1 z2)) (ad (mu (mu t1 t2) d) (mu (mu t1 t2) d)))) (stE (n := (ad (ad (mu z1 z2) (mu z1 z2)) (ad (mu (mu t1 t2) d) (mu (mu t1 t2) d)))) (c := ce 0) 29 (ce_size _)) rfl (by kernel_rfl) rfl (by kernel_rfl) (by kernel_rfl) (by kernel_rfl) (by kernel_rfl) (by kernel_rfl)) ?_
    refine ok_cons (ok_store (b := 11) (off := 0) (u := el (dig (sb (ad (mu z1 z2) (mu z1 z2)) (ad (mu (mu t1 t2) d) (mu (mu t1 t2) d))))) (c := ce 0) (n := ce (sb (ad (mu z1 z2) (mu z1 z2)) (ad (mu (mu t1 t2) d) (mu (mu t1 t2) d)))) (stE (n := (sb (ad (mu z1 z2) (mu z1 z2)) (ad (mu (mu t1 t2) d) (mu (mu t1 t2) d)))) (c := ce 0) 29 (ce_size _)) rfl (by kernel_rfl) rfl (by kernel_rfl) (by kernel_rfl) (by kernel_rfl) (by kernel_rfl) (by kernel_rfl)) ?_
    exact ok_nil
  clear h; intro β a w h
  refine sym_then ?_
  refine sym_seq ?_
  refine St.region h [.inl (.agg (ces [d])), .inl (.agg (ces [x1, y1, z1, t1])), .inl (.agg (ces [x2, y2, z2, t2])), .inr (0, 0), .inr (1, 0), .inr (2, 0), .inr (3, 0), .inr (4, 0), .inr (5, 0), .inr (6, 0), .inr (7, 0), .inr (8, 0), .inr (9, 0), .inr (10, 0), .inr (11, 0), .inr (1, 4), .inl (el (dig y1)), .inr (1, 0), .inl (el (dig x1)), .inl (el (dig (sb y1 x1))), .inr (2, 4), .inl (el (dig y2)), .inr (2, 0), .inl (el (dig x2)), .inl (el (dig (sb y2 x2))), .inl (el (dig (mu (sb y1 x1) (sb y2 x2)))), .inr (1, 4), .inl (el (dig y1)), .inr (1, 0), .inl (el (dig x1)), .inl (el (dig (ad y1 x1))), .inr (2, 4), .inl (el (dig y2)), .inr (2, 0), .inl (el (dig x2)), .inl (el (dig (ad y2 x2))), .inl (el (dig (mu (ad y1 x1) (ad y2 x2)))), .inr (1, 8), .inl (el (dig z1)), .inr (2, 8), .inl (el (dig z2)), .inl (el (dig (mu z1 z2))), .inl (el (dig (ad (mu z1 z2) (mu z1 z2)))), .inr (1, 12), .inl (el (dig t1)), .inr (2, 12), .inl (el (dig t2)), .inl (el (dig (mu t1 t2))), .inr (0, 0), .inl (el (dig d)), .inl (el (dig (mu (mu t1 t2) d))), .inl (el (dig (ad (mu (mu t1 t2) d) (mu (mu t1 t2) d)))), .inl (el (dig (mu (ad y1 x1) (ad y2 x2)))), .inl (el (dig (mu (sb y1 x1) (sb y2 x2)))), .inl (el (dig (sb (mu (ad y1 x1) (ad y2 x2)) (mu (sb y1 x1) (sb y2 x2))))), .inl (el (dig (mu (ad y1 x1) (ad y2 x2)))), .inl (el (dig (mu (sb y1 x1) (sb y2 x2)))), .inl (el (dig (ad (mu (ad y1 x1) (ad y2 x2)) (mu (sb y1 x1) (sb y2 x2))))), .inl (el (dig (ad (mu z1 z2) (mu z1 z2)))), .inl (el (dig (ad (mu (mu t1 t2) d) (mu (mu t1 t2) d)))), .inl (el (dig (ad (ad (mu z1 z2) (mu z1 z2)) (ad (mu (mu t1 t2) d) (mu (mu t1 t2) d))))), .inl (el (dig (ad (mu z1 z2) (mu z1 z2)))), .inl (el (dig (ad (mu (mu t1 t2) d) (mu (mu t1 t2) d)))), .inl (el (dig (sb (ad (mu z1 z2) (mu z1 z2)) (ad (mu (mu t1 t2) d) (mu (mu t1 t2) d))))), .inl (el (dig (sb (mu (ad y1 x1) (ad y2 x2)) (mu (sb y1 x1) (sb y2 x2))))), .inl (el (dig (sb (ad (mu z1 z2) (mu z1 z2)) (ad (mu (mu t1 t2) d) (mu (mu t1 t2) d))))), .inl (el (dig (mu (sb (mu (ad y1 x1) (ad y2 x2)) (mu (sb y1 x1) (sb y2 x2))) (sb (ad (mu z1 z2) (mu z1 z2)) (ad (mu (mu t1 t2) d) (mu (mu t1 t2) d)))))), .inl (el (dig (ad (mu (ad y1 x1) (ad y2 x2)) (mu (sb y1 x1) (sb y2 x2))))), .inl (el (dig (ad (ad (mu z1 z2) (mu z1 z2)) (ad (mu (mu t1 t2) d) (mu (mu t1 t2) d))))), .inl (el (dig (mu (ad (mu (ad y1 x1) (ad y2 x2)) (mu (sb y1 x1) (sb y2 x2))) (ad (ad (mu z1 z2) (mu z1 z2)) (ad (mu (mu t1 t2) d) (mu (mu t1 t2) d)))))), .inl (el (dig (ad (ad (mu z1 z2) (mu z1 z2)) (ad (mu (mu t1 t2) d) (mu (mu t1 t2) d))))), .inl (el (dig (sb (ad (mu z1 z2) (mu z1 z2)) (ad (mu (mu t1 t2) d) (mu (mu t1 t2) d))))), .inl (el (dig (mu (ad (ad (mu z1 z2) (mu z1 z2)) (ad (mu (mu t1 t2) d) (mu (mu t1 t2) d))) (sb (ad (mu z1 z2) (mu z1 z2)) (ad (mu (mu t1 t2) d) (mu (mu t1 t2) d)))))), .inl (el (dig (sb (mu (ad y1 x1) (ad y2 x2)) (mu (sb y1 x1) (sb y2 x2))))), .inl (el (dig (ad (mu (ad y1 x1) (ad y2 x2)) (mu (sb y1 x1) (sb y2 x2))))), .inl (el (dig (mu (sb (mu (ad y1 x1) (ad y2 x2)) (mu (sb y1 x1) (sb y2 x2))) (ad (mu (ad y1 x1) (ad y2 x2)) (mu (sb y1 x1) (sb y2 x2)))))), .inl (.agg (ces [(mu (sb (mu (ad y1 x1) (ad y2 x2)) (mu (sb y1 x1) (sb y2 x2))) (sb (ad (mu z1 z2) (mu z1 z2)) (ad (mu (mu t1 t2) d) (mu (mu t1 t2) d)))), (mu (ad (mu (ad y1 x1) (ad y2 x2)) (mu (sb y1 x1) (sb y2 x2))) (ad (ad (mu z1 z2) (mu z1 z2)) (ad (mu (mu t1 t2) d) (mu (mu t1 t2) d)))), (mu (ad (ad (mu z1 z2) (mu z1 z2)) (ad (mu (mu t1 t2) d) (mu (mu t1 t2) d))) (sb (ad (mu z1 z2) (mu z1 z2)) (ad (mu (mu t1 t2) d) (mu (mu t1 t2) d)))), (mu (sb (mu (ad y1 x1) (ad y2 x2)) (mu (sb y1 x1) (sb y2 x2))) (ad (mu (ad y1 x1) (ad y2 x2)) (mu (sb y1 x1) (sb y2 x2))))]))] [(ces [d], 75), (ces [x1, y1, z1, t1], 78), (ces [x2, y2, z2, t2], 78), (ces [(mu (sb (mu (ad y1 x1) (ad y2 x2)) (mu (sb y1 x1) (sb y2 x2))) (sb (ad (mu z1 z2) (mu z1 z2)) (ad (mu (mu t1 t2) d) (mu (mu t1 t2) d)))), (mu (ad (mu (ad y1 x1) (ad y2 x2)) (mu (sb y1 x1) (sb y2 x2))) (ad (ad (mu z1 z2) (mu z1 z2)) (ad (mu (mu t1 t2) d) (mu (mu t1 t2) d)))), (mu (ad (ad (mu z1 z2) (mu z1 z2)) (ad (mu (mu t1 t2) d) (mu (mu t1 t2) d))) (sb (ad (mu z1 z2) (mu z1 z2)) (ad (mu (mu t1 t2) d) (mu (mu t1 t2) d)))), (mu (sb (mu (ad y1 x1) (ad y2 x2)) (mu (sb y1 x1) (sb y2 x2))) (ad (mu (ad y1 x1) (ad y2 x2)) (mu (sb y1 x1) (sb y2 x2))))], 78), (ce (mu (sb y1 x1) (sb y2 x2)), 29), (ce (mu (ad y1 x1) (ad y2 x2)), 29), (ce (ad (mu z1 z2) (mu z1 z2)), 29), (ce (ad (mu (mu t1 t2) d) (mu (mu t1 t2) d)), 29), (ce (sb (mu (ad y1 x1) (ad y2 x2)) (mu (sb y1 x1) (sb y2 x2))), 29), (ce (ad (mu (ad y1 x1) (ad y2 x2)) (mu (sb y1 x1) (sb y2 x2))), 29), (ce (ad (ad (mu z1 z2) (mu z1 z2)) (ad (mu (mu t1 t2) d) (mu (mu t1 t2) d))), 29), (ce (sb (ad (mu z1 z2) (mu z1 z2)) (ad (mu (mu t1 t2) d) (mu (mu t1 t2) d))), 29)] [(ces [d], 75), (ces [x1, y1, z1, t1], 78), (ces [x2, y2, z2, t2], 78), (ces [0, 0, 0, 0], 78), (ce (mu (sb y1 x1) (sb y2 x2)), 29), (ce (mu (ad y1 x1) (ad y2 x2)), 29), (ce (ad (mu z1 z2) (mu z1 z2)), 29), (ce (ad (mu (mu t1 t2) d) (mu (mu t1 t2) d)), 29), (ce (sb (mu (ad y1 x1) (ad y2 x2)) (mu (sb y1 x1) (sb y2 x2))), 29), (ce (ad (mu (ad y1 x1) (ad y2 x2)) (mu (sb y1 x1) (sb y2 x2))), 29), (ce (ad (ad (mu z1 z2) (mu z1 z2)) (ad (mu (mu t1 t2) d) (mu (mu t1 t2) d))), 29), (ce (sb (ad (mu z1 z2) (mu z1 z2)) (ad (mu (mu t1 t2) d) (mu (mu t1 t2) d))), 29)] [#[], #[], #[], ces [(mu (sb (mu (ad y1 x1) (ad y2 x2)) (mu (sb y1 x1) (sb y2 x2))) (sb (ad (mu z1 z2) (mu z1 z2)) (ad (mu (mu t1 t2) d) (mu (mu t1 t2) d)))), (mu (ad (mu (ad y1 x1) (ad y2 x2)) (mu (sb y1 x1) (sb y2 x2))) (ad (ad (mu z1 z2) (mu z1 z2)) (ad (mu (mu t1 t2) d) (mu (mu t1 t2) d)))), (mu (ad (ad (mu z1 z2) (mu z1 z2)) (ad (mu (mu t1 t2) d) (mu (mu t1 t2) d))) (sb (ad (mu z1 z2) (mu z1 z2)) (ad (mu (mu t1 t2) d) (mu (mu t1 t2) d)))), (mu (sb (mu (ad y1 x1) (ad y2 x2)) (mu (sb y1 x1) (sb y2 x2))) (ad (mu (ad y1 x1) (ad y2 x2)) (mu (sb y1 x1) (sb y2 x2))))], #[], #[], #[], #[], #[], #[], #[], #[]] [⟨none, none, some 8, false⟩, ⟨none, none, some 11, false⟩, nn, ⟨none, none, some 9, false⟩, ⟨none, none, some 10, false⟩, nn, ⟨none, none, some 10, false⟩, ⟨none, none, some 11, false⟩, nn, ⟨none, none, some 8, false⟩, ⟨none, none, some 9, false⟩, nn, nn, ⟨none, some 3, none, false⟩] (by kernel_rfl) (by kernel_rfl) (by kernel_rfl) (by kernel_rfl) (by kernel_rfl) (by kernel_rfl) (by kernel_rfl) (by kernel_rfl) ?_ ?_
  · refine ok_cons (ok_load (b := 8) (off := 0) (c := ce (sb (mu (ad y1 x1) (ad y2 x2)) (mu (sb y1 x1) (sb y2 x2)))) (v := el (dig (sb (mu (ad y1 x1) (ad y2 x2)) (mu (sb y1 x1) (sb y2 x2))))) (ldE (n := (sb (mu (ad y1 x1) (ad y2 x2)) (mu (sb y1 x1) (sb y2 x2)))) 29) rfl (by kernel_rfl) rfl (by kernel_rfl) (by kernel_rfl) (by kernel_rfl)) ?_
    refine ok_cons (ok_load (b := 11) (off := 0) (c := ce (sb (ad (mu z1 z2) (mu z1 z2)) (ad (mu (mu t1 t2) d) (mu (mu t1 t2) d)))) (v := el (dig (sb (ad (mu z1 z2) (mu z1 z2)) (ad (mu (mu t1 t2) d) (mu (mu t1 t2) d))))) (ldE (n := (sb (ad (mu z1 z2) (mu z1 z2)) (ad (mu (mu t1 t2) d) (mu (mu t1 t2) d)))) 29) rfl (by kernel_rfl) rfl (by kernel_rfl) (by kernel_rfl) (by kernel_rfl)) ?_
    refine ok_cons (ok_call (vs := #[el (dig (sb (mu (ad y1 x1) (ad y2 x2)) (mu (sb y1 x1) (sb y2 x2)))), el (dig (sb (ad (mu z1 z2) (mu z1 z2)) (ad (mu (mu t1 t2) d) (mu (mu t1 t2) d))))]) (R := el (dig (mu (sb (mu (ad y1 x1) (ad y2 x2)) (mu (sb y1 x1) (sb y2 x2))) (sb (ad (mu z1 z2) (mu z1 z2)) (ad (mu (mu t1 t2) d) (mu (mu t1 t2) d)))))) (fun w => times_m (sb_lt _ _) (sb_lt _ _) w) rfl (by kernel_rfl) rfl (by kernel_rfl) (by kernel_rfl) (by kernel_rfl) (fun w => by kernel_rfl)) ?_
    refine ok_cons (ok_load (b := 9) (off := 0) (c := ce (ad (mu (ad y1 x1) (ad y2 x2)) (mu (sb y1 x1) (sb y2 x2)))) (v := el (dig (ad (mu (ad y1 x1) (ad y2 x2)) (mu (sb y1 x1) (sb y2 x2))))) (ldE (n := (ad (mu (ad y1 x1) (ad y2 x2)) (mu (sb y1 x1) (sb y2 x2)))) 29) rfl (by kernel_rfl) rfl (by kernel_rfl) (by kernel_rfl) (by kernel_rfl)) ?_
    refine ok_cons (ok_load (b := 10) (off := 0) (c := ce (ad (ad (mu z1 z2) (mu z1 z2)) (ad (mu (mu t1 t2) d) (mu (mu t1 t2) d)))) (v := el (dig (ad (ad (mu z1 z2) (mu z1 z2)) (ad (mu (mu t1 t2) d) (mu (mu t1 t2) d))))) (ldE (n := (ad (ad (mu z1 z2) (mu z1 z2)) (ad (mu (mu t1 t2) d) (mu (mu t1 t2) d)))) 29) rfl (by kernel_rfl) rfl (by kernel_rfl) (by kernel_rfl) (by kernel_rfl)) ?_
    refine ok_cons (ok_call (vs := #[el (dig (ad (mu (ad y1 x1) (ad y2 x2)) (mu (sb y1 x1) (sb y2 x2)))), el (dig (ad (ad (mu z1 z2) (mu z1 z2)) (ad (mu (mu t1 t2) d) (mu (mu t1 t2) d))))]) (R := el (dig (mu (ad (mu (ad y1 x1) (ad y2 x2)) (mu (sb y1 x1) (sb y2 x2))) (ad (ad (mu z1 z2) (mu z1 z2)) (ad (mu (mu t1 t2) d) (mu (mu t1 t2) d)))))) (fun w => times_m (ad_lt _ _) (ad_lt _ _) w) rfl (by kernel_rfl) rfl (by kernel_rfl) (by kernel_rfl) (by kernel_rfl) (fun w => by kernel_rfl)) ?_
    refine ok_cons (ok_load (b := 10) (off := 0) (c := ce (ad (ad (mu z1 z2) (mu z1 z2)) (ad (mu (mu t1 t2) d) (mu (mu t1 t2) d)))) (v := el (dig (ad (ad (mu z1 z2) (mu z1 z2)) (ad (mu (mu t1 t2) d) (mu (mu t1 t2) d))))) (ldE (n := (ad (ad (mu z1 z2) (mu z1 z2)) (ad (mu (mu t1 t2) d) (mu (mu t1 t2) d)))) 29) rfl (by kernel_rfl) rfl (by kernel_rfl) (by kernel_rfl) (by kernel_rfl)) ?_
    refine ok_cons (ok_load (b := 11) (off := 0) (c := ce (sb (ad (mu z1 z2) (mu z1 z2)) (ad (mu (mu t1 t2) d) (mu (mu t1 t2) d)))) (v := el (dig (sb (ad (mu z1 z2) (mu z1 z2)) (ad (mu (mu t1 t2) d) (mu (mu t1 t2) d))))) (ldE (n := (sb (ad (mu z1 z2) (mu z1 z2)) (ad (mu (mu t1 t2) d) (mu (mu t1 t2) d)))) 29) rfl (by kernel_rfl) rfl (by kernel_rfl) (by kernel_rfl) (by kernel_rfl)) ?_
    refine ok_cons (ok_call (vs := #[el (dig (ad (ad (mu z1 z2) (mu z1 z2)) (ad (mu (mu t1 t2) d) (mu (mu t1 t2) d)))), el (dig (sb (ad (mu z1 z2) (mu z1 z2)) (ad (mu (mu t1 t2) d) (mu (mu t1 t2) d))))]) (R := el (dig (mu (ad (ad (mu z1 z2) (mu z1 z2)) (ad (mu (mu t1 t2) d) (mu (mu t1 t2) d))) (sb (ad (mu z1 z2) (mu z1 z2)) (ad (mu (mu t1 t2) d) (mu (mu t1 t2) d)))))) (fun w => times_m (ad_lt _ _) (sb_lt _ _) w) rfl (by kernel_rfl) rfl (by kernel_rfl) (by kernel_rfl) (by kernel_rfl) (fun w => by kernel_rfl)) ?_
    refine ok_cons (ok_load (b := 8) (off := 0) (c := ce (sb (mu (ad y1 x1) (ad y2 x2)) (mu (sb y1 x1) (sb y2 x2)))) (v := el (dig (sb (mu (ad y1 x1) (ad y2 x2)) (mu (sb y1 x1) (sb y2 x2))))) (ldE (n := (sb (mu (ad y1 x1) (ad y2 x2)) (mu (sb y1 x1) (sb y2 x2)))) 29) rfl (by kernel_rfl) rfl (by kernel_rfl) (by kernel_rfl) (by kernel_rfl)) ?_
    refine ok_cons (ok_load (b := 9) (off := 0) (c := ce (ad (mu (ad y1 x1) (ad y2 x2)) (mu (sb y1 x1) (sb y2 x2)))) (v := el (dig (ad (mu (ad y1 x1) (ad y2 x2)) (mu (sb y1 x1) (sb y2 x2))))) (ldE (n := (ad (mu (ad y1 x1) (ad y2 x2)) (mu (sb y1 x1) (sb y2 x2)))) 29) rfl (by kernel_rfl) rfl (by kernel_rfl) (by kernel_rfl) (by kernel_rfl)) ?_
    refine ok_cons (ok_call (vs := #[el (dig (sb (mu (ad y1 x1) (ad y2 x2)) (mu (sb y1 x1) (sb y2 x2)))), el (dig (ad (mu (ad y1 x1) (ad y2 x2)) (mu (sb y1 x1) (sb y2 x2))))]) (R := el (dig (mu (sb (mu (ad y1 x1) (ad y2 x2)) (mu (sb y1 x1) (sb y2 x2))) (ad (mu (ad y1 x1) (ad y2 x2)) (mu (sb y1 x1) (sb y2 x2)))))) (fun w => times_m (sb_lt _ _) (ad_lt _ _) w) rfl (by kernel_rfl) rfl (by kernel_rfl) (by kernel_rfl) (by kernel_rfl) (fun w => by kernel_rfl)) ?_
    refine ok_cons (ok_build (vs := #[(0, el (dig (mu (sb (mu (ad y1 x1) (ad y2 x2)) (mu (sb y1 x1) (sb y2 x2))) (sb (ad (mu z1 z2) (mu z1 z2)) (ad (mu (mu t1 t2) d) (mu (mu t1 t2) d)))))), (1, el (dig (mu (ad (mu (ad y1 x1) (ad y2 x2)) (mu (sb y1 x1) (sb y2 x2))) (ad (ad (mu z1 z2) (mu z1 z2)) (ad (mu (mu t1 t2) d) (mu (mu t1 t2) d)))))), (2, el (dig (mu (ad (ad (mu z1 z2) (mu z1 z2)) (ad (mu (mu t1 t2) d) (mu (mu t1 t2) d))) (sb (ad (mu z1 z2) (mu z1 z2)) (ad (mu (mu t1 t2) d) (mu (mu t1 t2) d)))))), (3, el (dig (mu (sb (mu (ad y1 x1) (ad y2 x2)) (mu (sb y1 x1) (sb y2 x2))) (ad (mu (ad y1 x1) (ad y2 x2)) (mu (sb y1 x1) (sb y2 x2))))))]) (v := .agg (ces [(mu (sb (mu (ad y1 x1) (ad y2 x2)) (mu (sb y1 x1) (sb y2 x2))) (sb (ad (mu z1 z2) (mu z1 z2)) (ad (mu (mu t1 t2) d) (mu (mu t1 t2) d)))), (mu (ad (mu (ad y1 x1) (ad y2 x2)) (mu (sb y1 x1) (sb y2 x2))) (ad (ad (mu z1 z2) (mu z1 z2)) (ad (mu (mu t1 t2) d) (mu (mu t1 t2) d)))), (mu (ad (ad (mu z1 z2) (mu z1 z2)) (ad (mu (mu t1 t2) d) (mu (mu t1 t2) d))) (sb (ad (mu z1 z2) (mu z1 z2)) (ad (mu (mu t1 t2) d) (mu (mu t1 t2) d)))), (mu (sb (mu (ad y1 x1) (ad y2 x2)) (mu (sb y1 x1) (sb y2 x2))) (ad (mu (ad y1 x1) (ad y2 x2)) (mu (sb y1 x1) (sb y2 x2))))])) (bdS (a := (mu (sb (mu (ad y1 x1) (ad y2 x2)) (mu (sb y1 x1) (sb y2 x2))) (sb (ad (mu z1 z2) (mu z1 z2)) (ad (mu (mu t1 t2) d) (mu (mu t1 t2) d))))) (b := (mu (ad (mu (ad y1 x1) (ad y2 x2)) (mu (sb y1 x1) (sb y2 x2))) (ad (ad (mu z1 z2) (mu z1 z2)) (ad (mu (mu t1 t2) d) (mu (mu t1 t2) d))))) (c := (mu (ad (ad (mu z1 z2) (mu z1 z2)) (ad (mu (mu t1 t2) d) (mu (mu t1 t2) d))) (sb (ad (mu z1 z2) (mu z1 z2)) (ad (mu (mu t1 t2) d) (mu (mu t1 t2) d))))) (d := (mu (sb (mu (ad y1 x1) (ad y2 x2)) (mu (sb y1 x1) (sb y2 x2))) (ad (mu (ad y1 x1) (ad y2 x2)) (mu (sb y1 x1) (sb y2 x2)))))) rfl (by kernel_rfl) rfl (by kernel_rfl) (by kernel_rfl) (by kernel_rfl)) ?_
    refine ok_cons (ok_store (b := 3) (off := 0) (u := .agg (ces [(mu (sb (mu (ad y1 x1) (ad y2 x2)) (mu (sb y1 x1) (sb y2 x2))) (sb (ad (mu z1 z2) (mu z1 z2)) (ad (mu (mu t1 t2) d) (mu (mu t1 t2) d)))), (mu (ad (mu (ad y1 x1) (ad y2 x2)) (mu (sb y1 x1) (sb y2 x2))) (ad (ad (mu z1 z2) (mu z1 z2)) (ad (mu (mu t1 t2) d) (mu (mu t1 t2) d)))), (mu (ad (ad (mu z1 z2) (mu z1 z2)) (ad (mu (mu t1 t2) d) (mu (mu t1 t2) d))) (sb (ad (mu z1 z2) (mu z1 z2)) (ad (mu (mu t1 t2) d) (mu (mu t1 t2) d)))), (mu (sb (mu (ad y1 x1) (ad y2 x2)) (mu (sb y1 x1) (sb y2 x2))) (ad (mu (ad y1 x1) (ad y2 x2)) (mu (sb y1 x1) (sb y2 x2))))])) (c := ces [0, 0, 0, 0]) (n := ces [(mu (sb (mu (ad y1 x1) (ad y2 x2)) (mu (sb y1 x1) (sb y2 x2))) (sb (ad (mu z1 z2) (mu z1 z2)) (ad (mu (mu t1 t2) d) (mu (mu t1 t2) d)))), (mu (ad (mu (ad y1 x1) (ad y2 x2)) (mu (sb y1 x1) (sb y2 x2))) (ad (ad (mu z1 z2) (mu z1 z2)) (ad (mu (mu t1 t2) d) (mu (mu t1 t2) d)))), (mu (ad (ad (mu z1 z2) (mu z1 z2)) (ad (mu (mu t1 t2) d) (mu (mu t1 t2) d))) (sb (ad (mu z1 z2) (mu z1 z2)) (ad (mu (mu t1 t2) d) (mu (mu t1 t2) d)))), (mu (sb (mu (ad y1 x1) (ad y2 x2)) (mu (sb y1 x1) (sb y2 x2))) (ad (mu (ad y1 x1) (ad y2 x2)) (mu (sb y1 x1) (sb y2 x2))))]) (stS (a := (mu (sb (mu (ad y1 x1) (ad y2 x2)) (mu (sb y1 x1) (sb y2 x2))) (sb (ad (mu z1 z2) (mu z1 z2)) (ad (mu (mu t1 t2) d) (mu (mu t1 t2) d))))) (b := (mu (ad (mu (ad y1 x1) (ad y2 x2)) (mu (sb y1 x1) (sb y2 x2))) (ad (ad (mu z1 z2) (mu z1 z2)) (ad (mu (mu t1 t2) d) (mu (mu t1 t2) d))))) (c := (mu (ad (ad (mu z1 z2) (mu z1 z2)) (ad (mu (mu t1 t2) d) (mu (mu t1 t2) d))) (sb (ad (mu z1 z2) (mu z1 z2)) (ad (mu (mu t1 t2) d) (mu (mu t1 t2) d))))) (d := (mu (sb (mu (ad y1 x1) (ad y2 x2)) (mu (sb y1 x1) (sb y2 x2))) (ad (mu (ad y1 x1) (ad y2 x2)) (mu (sb y1 x1) (sb y2 x2))))) (e := ces [0, 0, 0, 0]) 78 (by rw [ces_size]; rfl)) rfl (by kernel_rfl) rfl (by kernel_rfl) (by kernel_rfl) (by kernel_rfl) (by kernel_rfl) (by kernel_rfl)) ?_
    exact ok_nil
  clear h; intro β a w h
  refine sym_then ?_
  refine wp_ret ?_
  exact sym_retc (b := 3) (t0 := 78) (c := ces [(mu (sb (mu (ad y1 x1) (ad y2 x2)) (mu (sb y1 x1) (sb y2 x2))) (sb (ad (mu z1 z2) (mu z1 z2)) (ad (mu (mu t1 t2) d) (mu (mu t1 t2) d)))), (mu (ad (mu (ad y1 x1) (ad y2 x2)) (mu (sb y1 x1) (sb y2 x2))) (ad (ad (mu z1 z2) (mu z1 z2)) (ad (mu (mu t1 t2) d) (mu (mu t1 t2) d)))), (mu (ad (ad (mu z1 z2) (mu z1 z2)) (ad (mu (mu t1 t2) d) (mu (mu t1 t2) d))) (sb (ad (mu z1 z2) (mu z1 z2)) (ad (mu (mu t1 t2) d) (mu (mu t1 t2) d)))), (mu (sb (mu (ad y1 x1) (ad y2 x2)) (mu (sb y1 x1) (sb y2 x2))) (ad (mu (ad y1 x1) (ad y2 x2)) (mu (sb y1 x1) (sb y2 x2))))]) h Try.results47 (by kernel_rfl) (by kernel_rfl) (by kernel_rfl) Try.underlying78 rfl (by rw [ces_size]; kernel_rfl) (fun hb => ⟨rfl, hb⟩)

end Go.Proofs.Ytgiemldmphbolaa

namespace Go.Proofs.Ytgiemldmphbolaa
open Go.RowKit

set_option maxHeartbeats 4000000 in
theorem plus_q {x1 b1 x2 b2 X Y Z T : Nat} (hx1 : x1 < pp) (hb1 : b1 < pp) (hx2 : x2 < pp) (hb2 : b2 < pp) (hX : X < pp) (hY : Y < pp) (hZ : Z < pp) (cS : ∀ w, Calls Try.prog 47 #[.agg (ces [dN]), .agg (ces [x1, ad b1 1, 1, mu x1 (ad b1 1)]), .agg (ces [x2, ad b2 1, 1, mu x2 (ad b2 1)])] w fun e w' => e = .returned (.agg (ces [X, Y, Z, T])) ∧ Below w.heap.size w w') (W0 : World) : Calls Try.prog 14 #[.agg (ces [x1, b1]), .agg (ces [x2, b2])] W0 fun e w' => e = .returned (.agg (ces [mu X (mu 1 (inv Z)), sb (mu Y (mu 1 (inv Z))) 1])) ∧ Below W0.heap.size W0 w' := by
  refine sym_enter Try.func14 Try.ntmps14 rfl [.inl (.agg (ces [x1, b1])), .inl (.agg (ces [x2, b2])), uu, uu, uu, uu, uu, uu, uu, uu, uu, uu, uu, uu, uu] (by kernel_rfl) (by kernel_rfl) ?_
  intro β a h
  refine sym_seq ?_
  refine St.region h [.inl (.agg (ces [x1, b1])), .inl (.agg (ces [x2, b2])), .inr (0, 0), .inr (1, 0), .inr (2, 0), uu, uu, uu, uu, uu, uu, uu, uu, uu, uu] [(ces [x1, b1], 31), (ces [x2, b2], 31), (ces [0, 0], 31)] [(ces [x1, b1], 31), (ces [x2, b2], 31), (ces [0, 0], 31)] [#[], #[], #[]] [⟨some 0, none, none, false⟩, ⟨some 1, none, none, false⟩, ⟨some 2, none, none, false⟩] (by kernel_rfl) (by kernel_rfl) (by kernel_rfl) (by kernel_rfl) (by kernel_rfl) (by kernel_rfl) (by kernel_rfl) (by kernel_rfl) ?_ ?_
  · refine ok_cons (ok_box (b := 0) (u := .agg (ces [x1, b1])) (bxP (a := x1) (b := b1)) rfl (by kernel_rfl) rfl (by kernel_rfl) (by kernel_rfl) (by kernel_rfl) (by kernel_rfl)) ?_
    refine ok_cons (ok_box (b := 1) (u := .agg (ces [x2, b2])) (bxP (a := x2) (b := b2)) rfl (by kernel_rfl) rfl (by kernel_rfl) (by kernel_rfl) (by kernel_rfl) (by kernel_rfl)) ?_
    refine ok_cons (ok_alloc (b := 2) alP rfl (by kernel_rfl) rfl (by kernel_rfl) (by kernel_rfl)) ?_
    exact ok_nil
  clear h; intro β a w h
  refine sym_then ?_
  refine sym_seq ?_
  refine St.region h [.inl (.agg (ces [x1, b1])), .inl (.agg (ces [x2, b2])), .inr (0, 0), .inr (1, 0), .inr (2, 0), .inl (.func (.func 47) #[.agg (ces [dN])] #[]), .inl (.agg (ces [dN])), .inl (.func (.func 47) #[.agg (ces [dN])] #[]), uu, uu, uu, uu, uu, uu, uu] [(ces [x1, b1], 31), (ces [x2, b2], 31), (ces [0, 0], 31)] [(ces [x1, b1], 31), (ces [x2, b2], 31), (ces [0, 0], 31)] [#[], #[], #[]] [nn, nn, nn] (by kernel_rfl) (by kernel_rfl) (by kernel_rfl) (by kernel_rfl) (by kernel_rfl) (by kernel_rfl) (by kernel_rfl) (by kernel_rfl) ?_ ?_
  · refine ok_cons (ok_call (vs := #[]) (R := .agg (ces [dN])) law_r rfl (by kernel_rfl) rfl (by kernel_rfl) (by kernel_rfl) (by kernel_rfl) (fun w => by kernel_rfl)) ?_
    refine ok_cons (ok_mkf (vs := #[.agg (ces [dN])]) rfl (by kernel_rfl) rfl (by kernel_rfl) (by kernel_rfl) (by kernel_rfl)) ?_
    refine ok_cons (ok_mv (Or.inr rfl) (by kernel_rfl) rfl (by kernel_rfl) (by kernel_rfl)) ?_
    exact ok_nil
  clear h; intro β a w h
  refine sym_then ?_
  refine sym_seq ?_
  refine St.region h [.inl (.agg (ces [x1, b1])), .inl (.agg (ces [x2, b2])), .inr (0, 0), .inr (1, 0), .inr (2, 0), .inl (.func (.func 47) #[.agg (ces [dN])] #[]), .inl (.agg (ces [dN])), .inl (.func (.func 47) #[.agg (ces [dN])] #[]), .inl (.func (.func 47) #[.agg (ces [dN])] #[]), .inl (.agg (ces [x1, b1])), .inl (.agg (ces [x1, (ad b1 1), 1, (mu x1 (ad b1 1))])), .inl (.agg (ces [x2, b2])), .inl (.agg (ces [x2, (ad b2 1), 1, (mu x2 (ad b2 1))])), .inl (.agg (ces [X, Y, Z, T])), .inl (.agg (ces [(mu X (mu 1 (inv Z))), (sb (mu Y (mu 1 (inv Z))) 1)]))] [(ces [x1, b1], 31), (ces [x2, b2], 31), (ces [(mu X (mu 1 (inv Z))), (sb (mu Y (mu 1 (inv Z))) 1)], 31)] [(ces [x1, b1], 31), (ces [x2, b2], 31), (ces [0, 0], 31)] [#[], #[], ces [(mu X (mu 1 (inv Z))), (sb (mu Y (mu 1 (inv Z))) 1)]] [nn, ⟨none, none, some 0, false⟩, nn, ⟨none, none, some 1, false⟩, nn, nn, nn, ⟨none, some 2, none, false⟩] (by kernel_rfl) (by kernel_rfl) (by kernel_rfl) (by kernel_rfl) (by kernel_rfl) (by kernel_rfl) (by kernel_rfl) (by kernel_rfl) ?_ ?_
  · refine ok_cons (ok_mv (Or.inl rfl) (by kernel_rfl) rfl (by kernel_rfl) (by kernel_rfl)) ?_
    refine ok_cons (ok_load (b := 0) (off := 0) (c := ces [x1, b1]) (v := .agg (ces [x1, b1])) (ldP (a := x1) (b := b1) 31) rfl (by kernel_rfl) rfl (by kernel_rfl) (by kernel_rfl) (by kernel_rfl)) ?_
    refine ok_cons (ok_call (vs := #[.agg (ces [x1, b1])]) (R := .agg (ces [x1, (ad b1 1), 1, (mu x1 (ad b1 1))])) (fun w => shared_r hx1 hb1 w) rfl (by kernel_rfl) rfl (by kernel_rfl) (by kernel_rfl) (by kernel_rfl) (fun w => by kernel_rfl)) ?_
    refine ok_cons (ok_load (b := 1) (off := 0) (c := ces [x2, b2]) (v := .agg (ces [x2, b2])) (ldP (a := x2) (b := b2) 31) rfl (by kernel_rfl) rfl (by kernel_rfl) (by kernel_rfl) (by kernel_rfl)) ?_
    refine ok_cons (ok_call (vs := #[.agg (ces [x2, b2])]) (R := .agg (ces [x2, (ad b2 1), 1, (mu x2 (ad b2 1))])) (fun w => shared_r hx2 hb2 w) rfl (by kernel_rfl) rfl (by kernel_rfl) (by kernel_rfl) (by kernel_rfl) (fun w => by kernel_rfl)) ?_
    refine ok_cons (ok_callv (f := 47) (first := #[.agg (ces [dN])]) (ws := #[.agg (ces [x1, (ad b1 1), 1, (mu x1 (ad b1 1))]), .agg (ces [x2, (ad b2 1), 1, (mu x2 (ad b2 1))])]) (vs := #[.agg (ces [dN]), .agg (ces [x1, (ad b1 1), 1, (mu x1 (ad b1 1))]), .agg (ces [x2, (ad b2 1), 1, (mu x2 (ad b2 1))])]) (R := .agg (ces [X, Y, Z, T])) cS rfl (by kernel_rfl) rfl (by kernel_rfl) (by kernel_rfl) (by kernel_rfl) (by kernel_rfl) (by kernel_rfl) (fun w => by kernel_rfl)) ?_
    refine ok_cons (ok_call (vs := #[.agg (ces [X, Y, Z, T])]) (R := .agg (ces [(mu X (mu 1 (inv Z))), (sb (mu Y (mu 1 (inv Z))) 1)])) (fun w => point_r hX hY hZ w) rfl (by kernel_rfl) rfl (by kernel_rfl) (by kernel_rfl) (by kernel_rfl) (fun w => by kernel_rfl)) ?_
    refine ok_cons (ok_store (b := 2) (off := 0) (u := .agg (ces [(mu X (mu 1 (inv Z))), (sb (mu Y (mu 1 (inv Z))) 1)])) (c := ces [0, 0]) (n := ces [(mu X (mu 1 (inv Z))), (sb (mu Y (mu 1 (inv Z))) 1)]) (stP (a := (mu X (mu 1 (inv Z)))) (b := (sb (mu Y (mu 1 (inv Z))) 1)) (c := ces [0, 0]) 31 (by rw [ces_size]; rfl)) rfl (by kernel_rfl) rfl (by kernel_rfl) (by kernel_rfl) (by kernel_rfl) (by kernel_rfl) (by kernel_rfl)) ?_
    exact ok_nil
  clear h; intro β a w h
  refine sym_then ?_
  refine wp_ret ?_
  exact sym_retc (b := 2) (t0 := 31) (c := ces [(mu X (mu 1 (inv Z))), (sb (mu Y (mu 1 (inv Z))) 1)]) h Try.results14 (by kernel_rfl) (by kernel_rfl) (by kernel_rfl) Try.underlying31 rfl (by rw [ces_size]; kernel_rfl) (fun hb => ⟨rfl, hb⟩)

/-- The sum's four numbers. -/
def pX (x1 b1 x2 b2 : Nat) : Nat := (mu (sb (mu (ad (ad b1 1) x1) (ad (ad b2 1) x2)) (mu (sb (ad b1 1) x1) (sb (ad b2 1) x2))) (sb (ad (mu 1 1) (mu 1 1)) (ad (mu (mu (mu x1 (ad b1 1)) (mu x2 (ad b2 1))) dN) (mu (mu (mu x1 (ad b1 1)) (mu x2 (ad b2 1))) dN))))
def pY (x1 b1 x2 b2 : Nat) : Nat := (mu (ad (mu (ad (ad b1 1) x1) (ad (ad b2 1) x2)) (mu (sb (ad b1 1) x1) (sb (ad b2 1) x2))) (ad (ad (mu 1 1) (mu 1 1)) (ad (mu (mu (mu x1 (ad b1 1)) (mu x2 (ad b2 1))) dN) (mu (mu (mu x1 (ad b1 1)) (mu x2 (ad b2 1))) dN))))
def pZ (x1 b1 x2 b2 : Nat) : Nat := (mu (ad (ad (mu 1 1) (mu 1 1)) (ad (mu (mu (mu x1 (ad b1 1)) (mu x2 (ad b2 1))) dN) (mu (mu (mu x1 (ad b1 1)) (mu x2 (ad b2 1))) dN))) (sb (ad (mu 1 1) (mu 1 1)) (ad (mu (mu (mu x1 (ad b1 1)) (mu x2 (ad b2 1))) dN) (mu (mu (mu x1 (ad b1 1)) (mu x2 (ad b2 1))) dN))))
def sx (x1 b1 x2 b2 : Nat) : Nat := mu (pX x1 b1 x2 b2) (mu 1 (inv (pZ x1 b1 x2 b2)))
def sy (x1 b1 x2 b2 : Nat) : Nat := mu (pY x1 b1 x2 b2) (mu 1 (inv (pZ x1 b1 x2 b2)))
theorem plus_p {x1 b1 x2 b2 : Nat} (hx1 : x1 < pp) (hb1 : b1 < pp) (hx2 : x2 < pp) (hb2 : b2 < pp) (W0 : World) : Calls Try.prog 14 #[.agg (ces [x1, b1]), .agg (ces [x2, b2])] W0 fun e w' => e = .returned (.agg (ces [sx x1 b1 x2 b2, sb (sy x1 b1 x2 b2) 1])) ∧ Below W0.heap.size W0 w' :=
  plus_q (X := pX x1 b1 x2 b2) (Y := pY x1 b1 x2 b2) (Z := pZ x1 b1 x2 b2) (T := (mu (sb (mu (ad (ad b1 1) x1) (ad (ad b2 1) x2)) (mu (sb (ad b1 1) x1) (sb (ad b2 1) x2))) (ad (mu (ad (ad b1 1) x1) (ad (ad b2 1) x2)) (mu (sb (ad b1 1) x1) (sb (ad b2 1) x2))))) hx1 hb1 hx2 hb2 (mu_lt _ _) (mu_lt _ _) (mu_lt _ _) (fun w => sum_r dN_lt hx1 (ad_lt _ _) one_ltp (mu_lt _ _) hx2 (ad_lt _ _) one_ltp (mu_lt _ _) w) W0

set_option maxHeartbeats 4000000 in
theorem minus_p {x1 b1 x2 b2 : Nat} (hx1 : x1 < pp) (hb1 : b1 < pp) (hx2 : x2 < pp) (hb2 : b2 < pp) (W0 : World) : Calls Try.prog 16 #[.agg (ces [x1, b1]), .agg (ces [x2, b2])] W0 fun e w' => e = .returned (.agg (ces [sx x1 b1 (sb 0 x2) b2, sb (sy x1 b1 (sb 0 x2) b2) 1])) ∧ Below W0.heap.size W0 w' := by
  refine sym_enter Try.func16 Try.ntmps16 rfl [.inl (.agg (ces [x1, b1])), .inl (.agg (ces [x2, b2])), uu, uu, uu, uu, uu, uu, uu, uu, uu, uu, uu, uu] (by kernel_rfl) (by kernel_rfl) ?_
  intro β a h
  refine sym_seq ?_
  refine St.region h [.inl (.agg (ces [x1, b1])), .inl (.agg (ces [x2, b2])), .inr (0, 0), .inr (1, 0), .inr (2, 0), uu, uu, uu, uu, uu, uu, uu, uu, uu] [(ces [x1, b1], 31), (ces [x2, b2], 31), (ces [0, 0], 31)] [(ces [x1, b1], 31), (ces [x2, b2], 31), (ces [0, 0], 31)] [#[], #[], #[]] [⟨some 0, none, none, false⟩, ⟨some 1, none, none, false⟩, ⟨some 2, none, none, false⟩] (by kernel_rfl) (by kernel_rfl) (by kernel_rfl) (by kernel_rfl) (by kernel_rfl) (by kernel_rfl) (by kernel_rfl) (by kernel_rfl) ?_ ?_
  · refine ok_cons (ok_box (b := 0) (u := .agg (ces [x1, b1])) (bxP (a := x1) (b := b1)) rfl (by kernel_rfl) rfl (by kernel_rfl) (by kernel_rfl) (by kernel_rfl) (by kernel_rfl)) ?_
    refine ok_cons (ok_box (b := 1) (u := .agg (ces [x2, b2])) (bxP (a := x2) (b := b2)) rfl (by kernel_rfl) rfl (by kernel_rfl) (by kernel_rfl) (by kernel_rfl) (by kernel_rfl)) ?_
    refine ok_cons (ok_alloc (b := 2) alP rfl (by kernel_rfl) rfl (by kernel_rfl) (by kernel_rfl)) ?_
    exact ok_nil
  clear h; intro β a w h
  refine sym_then ?_
  refine sym_seq ?_
  refine St.region h [.inl (.agg (ces [x1, b1])), .inl (.agg (ces [x2, b2])), .inr (0, 0), .inr (1, 0), .inr (2, 0), .inl (.agg (ces [x1, b1])), .inl (el (dig 0)), .inr (1, 0), .inl (el (dig x2)), .inl (el (dig (sb 0 x2))), .inr (1, 4), .inl (el (dig b2)), .inl (.agg (ces [(sb 0 x2), b2])), .inl (.agg (ces [(sx x1 b1 (sb 0 x2) b2), (sb (sy x1 b1 (sb 0 x2) b2) 1)]))] [(ces [x1, b1], 31), (ces [x2, b2], 31), (ces [(sx x1 b1 (sb 0 x2) b2), (sb (sy x1 b1 (sb 0 x2) b2) 1)], 31)] [(ces [x1, b1], 31), (ces [x2, b2], 31), (ces [0, 0], 31)] [#[], #[], ces [(sx x1 b1 (sb 0 x2) b2), (sb (sy x1 b1 (sb 0 x2) b2) 1)]] [⟨none, none, some 0, false⟩, nn, nn, ⟨none, none, some 1, false⟩, nn, nn, ⟨none, none, some 1, false⟩, nn, nn, ⟨none, some 2, none, false⟩] (by kernel_rfl) (by kernel_rfl) (by kernel_rfl) (by kernel_rfl) (by kernel_rfl) (by kernel_rfl) (by kernel_rfl) (by kernel_rfl) ?_ ?_
  · refine ok_cons (ok_load (b := 0) (off := 0) (c := ces [x1, b1]) (v := .agg (ces [x1, b1])) (ldP (a := x1) (b := b1) 31) rfl (by kernel_rfl) rfl (by kernel_rfl) (by kernel_rfl) (by kernel_rfl)) ?_
    refine ok_cons (ok_build (vs := #[]) (v := el (dig 0)) bdE rfl (by kernel_rfl) rfl (by kernel_rfl) (by kernel_rfl) (by kernel_rfl)) ?_
    refine ok_cons (ok_faddr (b := 1) (off := 0) (off' := 0) (fun w q => by kernel_rfl) rfl (by kernel_rfl) rfl (by kernel_rfl) (by kernel_rfl)) ?_
    refine ok_cons (ok_load (b := 1) (off := 0) (c := ces [x2, b2]) (v := el (dig x2)) (ld_ces (l := [x2, b2]) (k := 0) (n := x2) 31 rfl) rfl (by kernel_rfl) rfl (by kernel_rfl) (by kernel_rfl) (by kernel_rfl)) ?_
    refine ok_cons (ok_call (vs := #[el (dig 0), el (dig x2)]) (R := el (dig (sb 0 x2))) (fun w => minus_m (by decide +kernel) hx2 w) rfl (by kernel_rfl) rfl (by kernel_rfl) (by kernel_rfl) (by kernel_rfl) (fun w => by kernel_rfl)) ?_
    refine ok_cons (ok_faddr (b := 1) (off := 0) (off' := 4) (fun w q => by kernel_rfl) rfl (by kernel_rfl) rfl (by kernel_rfl) (by kernel_rfl)) ?_
    refine ok_cons (ok_load (b := 1) (off := 4) (c := ces [x2, b2]) (v := el (dig b2)) (ld_ces (l := [x2, b2]) (k := 1) (n := b2) 31 rfl) rfl (by kernel_rfl) rfl (by kernel_rfl) (by kernel_rfl) (by kernel_rfl)) ?_
    refine ok_cons (ok_build (vs := #[(0, el (dig (sb 0 x2))), (1, el (dig b2))]) (v := .agg (ces [(sb 0 x2), b2])) (bdP (a := (sb 0 x2)) (b := b2)) rfl (by kernel_rfl) rfl (by kernel_rfl) (by kernel_rfl) (by kernel_rfl)) ?_
    refine ok_cons (ok_call (vs := #[.agg (ces [x1, b1]), .agg (ces [(sb 0 x2), b2])]) (R := .agg (ces [(sx x1 b1 (sb 0 x2) b2), (sb (sy x1 b1 (sb 0 x2) b2) 1)])) (fun w => plus_p hx1 hb1 (sb_lt _ _) hb2 w) rfl (by kernel_rfl) rfl (by kernel_rfl) (by kernel_rfl) (by kernel_rfl) (fun w => by kernel_rfl)) ?_
    refine ok_cons (ok_store (b := 2) (off := 0) (u := .agg (ces [(sx x1 b1 (sb 0 x2) b2), (sb (sy x1 b1 (sb 0 x2) b2) 1)])) (c := ces [0, 0]) (n := ces [(sx x1 b1 (sb 0 x2) b2), (sb (sy x1 b1 (sb 0 x2) b2) 1)]) (stP (a := (sx x1 b1 (sb 0 x2) b2)) (b := (sb (sy x1 b1 (sb 0 x2) b2) 1)) (c := ces [0, 0]) 31 (by rw [ces_size]; rfl)) rfl (by kernel_rfl) rfl (by kernel_rfl) (by kernel_rfl) (by kernel_rfl) (by kernel_rfl) (by kernel_rfl)) ?_
    exact ok_nil
  clear h; intro β a w h
  refine sym_then ?_
  refine wp_ret ?_
  exact sym_retc (b := 2) (t0 := 31) (c := ces [(sx x1 b1 (sb 0 x2) b2), (sb (sy x1 b1 (sb 0 x2) b2) 1)]) h Try.results16 (by kernel_rfl) (by kernel_rfl) (by kernel_rfl) Try.underlying31 rfl (by rw [ces_size]; kernel_rfl) (fun hb => ⟨rfl, hb⟩)

set_option maxHeartbeats 4000000 in
theorem is_ptt {x1 b1 x2 b2 : Nat} (hx1 : x1 < pp) (hx2 : x2 < pp) (e1 : x1 = x2) (hb1 : b1 < pp) (hb2 : b2 < pp) (e2 : b1 = b2) (W0 : World) : Calls Try.prog 18 #[.agg (ces [x1, b1]), .agg (ces [x2, b2])] W0 fun e w' => e = .returned (.bool true) ∧ Below W0.heap.size W0 w' := by
  refine sym_enter Try.func18 Try.ntmps18 rfl [.inl (.agg (ces [x1, b1])), .inl (.agg (ces [x2, b2])), uu, uu, uu, uu, uu, uu, uu, uu, uu, uu, uu, uu, uu, uu, uu] (by kernel_rfl) (by kernel_rfl) ?_
  intro β a h
  refine sym_seq ?_
  refine St.region h [.inl (.agg (ces [x1, b1])), .inl (.agg (ces [x2, b2])), .inr (0, 0), .inr (1, 0), .inl (.bool false), uu, uu, uu, uu, uu, uu, uu, uu, uu, uu, uu, uu] [(ces [x1, b1], 31), (ces [x2, b2], 31)] [(ces [x1, b1], 31), (ces [x2, b2], 31)] [#[], #[]] [⟨some 0, none, none, false⟩, ⟨some 1, none, none, false⟩, nn] (by kernel_rfl) (by kernel_rfl) (by kernel_rfl) (by kernel_rfl) (by kernel_rfl) (by kernel_rfl) (by kernel_rfl) (by kernel_rfl) ?_ ?_
  · refine ok_cons (ok_box (b := 0) (u := .agg (ces [x1, b1])) (bxP (a := x1) (b := b1)) rfl (by kernel_rfl) rfl (by kernel_rfl) (by kernel_rfl) (by kernel_rfl) (by kernel_rfl)) ?_
    refine ok_cons (ok_box (b := 1) (u := .agg (ces [x2, b2])) (bxP (a := x2) (b := b2)) rfl (by kernel_rfl) rfl (by kernel_rfl) (by kernel_rfl) (by kernel_rfl) (by kernel_rfl)) ?_
    refine ok_cons (ok_mv (Or.inr rfl) (by kernel_rfl) rfl (by kernel_rfl) (by kernel_rfl)) ?_
    exact ok_nil
  clear h; intro β a w h
  refine sym_then ?_
  refine sym_seq ?_
  refine St.region h [.inl (.agg (ces [x1, b1])), .inl (.agg (ces [x2, b2])), .inr (0, 0), .inr (1, 0), .inl (.bool true), .inr (0, 0), .inl (el (dig x1)), .inr (1, 0), .inl (el (dig x2)), .inl (.bool true), .inl (.bool true), .inr (0, 4), .inl (el (dig b1)), .inr (1, 4), .inl (el (dig b2)), .inl (.bool true), .inl (.bool true)] [(ces [x1, b1], 31), (ces [x2, b2], 31)] [(ces [x1, b1], 31), (ces [x2, b2], 31)] [#[], #[]] [nn, ⟨none, none, some 0, false⟩, nn, ⟨none, none, some 1, false⟩, nn, nn, nn, ⟨none, none, some 0, false⟩, nn, ⟨none, none, some 1, false⟩, nn, nn, nn] (by kernel_rfl) (by kernel_rfl) (by kernel_rfl) (by kernel_rfl) (by kernel_rfl) (by kernel_rfl) (by kernel_rfl) (by kernel_rfl) ?_ ?_
  · refine ok_cons (ok_faddr (b := 0) (off := 0) (off' := 0) (fun w q => by kernel_rfl) rfl (by kernel_rfl) rfl (by kernel_rfl) (by kernel_rfl)) ?_
    refine ok_cons (ok_load (b := 0) (off := 0) (c := ces [x1, b1]) (v := el (dig x1)) (ld_ces (l := [x1, b1]) (k := 0) (n := x1) 31 rfl) rfl (by kernel_rfl) rfl (by kernel_rfl) (by kernel_rfl) (by kernel_rfl)) ?_
    refine ok_cons (ok_faddr (b := 1) (off := 0) (off' := 0) (fun w q => by kernel_rfl) rfl (by kernel_rfl) rfl (by kernel_rfl) (by kernel_rfl)) ?_
    refine ok_cons (ok_load (b := 1) (off := 0) (c := ces [x2, b2]) (v := el (dig x2)) (ld_ces (l := [x2, b2]) (k := 0) (n := x2) 31 rfl) rfl (by kernel_rfl) rfl (by kernel_rfl) (by kernel_rfl) (by kernel_rfl)) ?_
    refine ok_cons (ok_call (vs := #[el (dig x1), el (dig x2)]) (R := .bool true) (fun w => is_t hx1 hx2 e1 w) rfl (by kernel_rfl) rfl (by kernel_rfl) (by kernel_rfl) (by kernel_rfl) (fun w => by kernel_rfl)) ?_
    refine ok_cons (ok_mv (Or.inl rfl) (by kernel_rfl) rfl (by kernel_rfl) (by kernel_rfl)) ?_
    refine ok_cons (ok_faddr (b := 0) (off := 0) (off' := 4) (fun w q => by kernel_rfl) rfl (by kernel_rfl) rfl (by kernel_rfl) (by kernel_rfl)) ?_
    refine ok_cons (ok_load (b := 0) (off := 4) (c := ces [x1, b1]) (v := el (dig b1)) (ld_ces (l := [x1, b1]) (k := 1) (n := b1) 31 rfl) rfl (by kernel_rfl) rfl (by kernel_rfl) (by kernel_rfl) (by kernel_rfl)) ?_
    refine ok_cons (ok_faddr (b := 1) (off := 0) (off' := 4) (fun w q => by kernel_rfl) rfl (by kernel_rfl) rfl (by kernel_rfl) (by kernel_rfl)) ?_
    refine ok_cons (ok_load (b := 1) (off := 4) (c := ces [x2, b2]) (v := el (dig b2)) (ld_ces (l := [x2, b2]) (k := 1) (n := b2) 31 rfl) rfl (by kernel_rfl) rfl (by kernel_rfl) (by kernel_rfl) (by kernel_rfl)) ?_
    refine ok_cons (ok_call (vs := #[el (dig b1), el (dig b2)]) (R := .bool true) (fun w => is_t hb1 hb2 e2 w) rfl (by kernel_rfl) rfl (by kernel_rfl) (by kernel_rfl) (by kernel_rfl) (fun w => by kernel_rfl)) ?_
    refine ok_cons (ok_pick_t rfl (by kernel_rfl) rfl (by kernel_rfl) (by kernel_rfl) (by kernel_rfl) (by kernel_rfl)) ?_
    refine ok_cons (ok_mv (Or.inr rfl) (by kernel_rfl) rfl (by kernel_rfl) (by kernel_rfl)) ?_
    exact ok_nil
  clear h; intro β a w h
  refine sym_then ?_
  refine wp_ret ?_
  exact sym_ret h Try.results18 (by kernel_rfl) (by kernel_rfl) (fun hb => ⟨rfl, hb⟩)

set_option maxHeartbeats 4000000 in
theorem is_ptf {x1 b1 x2 b2 : Nat} (hx1 : x1 < pp) (hx2 : x2 < pp) (e1 : x1 = x2) (hb1 : b1 < pp) (hb2 : b2 < pp) (e2 : b1 ≠ b2) (W0 : World) : Calls Try.prog 18 #[.agg (ces [x1, b1]), .agg (ces [x2, b2])] W0 fun e w' => e = .returned (.bool false) ∧ Below W0.heap.size W0 w' := by
  refine sym_enter Try.func18 Try.ntmps18 rfl [.inl (.agg (ces [x1, b1])), .inl (.agg (ces [x2, b2])), uu, uu, uu, uu, uu, uu, uu, uu, uu, uu, uu, uu, uu, uu, uu] (by kernel_rfl) (by kernel_rfl) ?_
  intro β a h
  refine sym_seq ?_
  refine St.region h [.inl (.agg (ces [x1, b1])), .inl (.agg (ces [x2, b2])), .inr (0, 0), .inr (1, 0), .inl (.bool false), uu, uu, uu, uu, uu, uu, uu, uu, uu, uu, uu, uu] [(ces [x1, b1], 31), (ces [x2, b2], 31)] [(ces [x1, b1], 31), (ces [x2, b2], 31)] [#[], #[]] [⟨some 0, none, none, false⟩, ⟨some 1, none, none, false⟩, nn] (by kernel_rfl) (by kernel_rfl) (by kernel_rfl) (by kernel_rfl) (by kernel_rfl) (by kernel_rfl) (by kernel_rfl) (by kernel_rfl) ?_ ?_
  · refine ok_cons (ok_box (b := 0) (u := .agg (ces [x1, b1])) (bxP (a := x1) (b := b1)) rfl (by kernel_rfl) rfl (by kernel_rfl) (by kernel_rfl) (by kernel_rfl) (by kernel_rfl)) ?_
    refine ok_cons (ok_box (b := 1) (u := .agg (ces [x2, b2])) (bxP (a := x2) (b := b2)) rfl (by kernel_rfl) rfl (by kernel_rfl) (by kernel_rfl) (by kernel_rfl) (by kernel_rfl)) ?_
    refine ok_cons (ok_mv (Or.inr rfl) (by kernel_rfl) rfl (by kernel_rfl) (by kernel_rfl)) ?_
    exact ok_nil
  clear h; intro β a w h
  refine sym_then ?_
  refine sym_seq ?_
  refine St.region h [.inl (.agg (ces [x1, b1])), .inl (.agg (ces [x2, b2])), .inr (0, 0), .inr (1, 0), .inl (.bool false), .inr (0, 0), .inl (el (dig x1)), .inr (1, 0), .inl (el (dig x2)), .inl (.bool true), .inl (.bool true), .inr (0, 4), .inl (el (dig b1)), .inr (1, 4), .inl (el (dig b2)), .inl (.bool false), .inl (.bool false)] [(ces [x1, b1], 31), (ces [x2, b2], 31)] [(ces [x1, b1], 31), (ces [x2, b2], 31)] [#[], #[]] [nn, ⟨none, none, some 0, false⟩, nn, ⟨none, none, some 1, false⟩, nn, nn, nn, ⟨none, none, some 0, false⟩, nn, ⟨none, none, some 1, false⟩, nn, nn, nn] (by kernel_rfl) (by kernel_rfl) (by kernel_rfl) (by kernel_rfl) (by kernel_rfl) (by kernel_rfl) (by kernel_rfl) (by kernel_rfl) ?_ ?_
  · refine ok_cons (ok_faddr (b := 0) (off := 0) (off' := 0) (fun w q => by kernel_rfl) rfl (by kernel_rfl) rfl (by kernel_rfl) (by kernel_rfl)) ?_
    refine ok_cons (ok_load (b := 0) (off := 0) (c := ces [x1, b1]) (v := el (dig x1)) (ld_ces (l := [x1, b1]) (k := 0) (n := x1) 31 rfl) rfl (by kernel_rfl) rfl (by kernel_rfl) (by kernel_rfl) (by kernel_rfl)) ?_
    refine ok_cons (ok_faddr (b := 1) (off := 0) (off' := 0) (fun w q => by kernel_rfl) rfl (by kernel_rfl) rfl (by kernel_rfl) (by kernel_rfl)) ?_
    refine ok_cons (ok_load (b := 1) (off := 0) (c := ces [x2, b2]) (v := el (dig x2)) (ld_ces (l := [x2, b2]) (k := 0) (n := x2) 31 rfl) rfl (by kernel_rfl) rfl (by kernel_rfl) (by kernel_rfl) (by kernel_rfl)) ?_
    refine ok_cons (ok_call (vs := #[el (dig x1), el (dig x2)]) (R := .bool true) (fun w => is_t hx1 hx2 e1 w) rfl (by kernel_rfl) rfl (by kernel_rfl) (by kernel_rfl) (by kernel_rfl) (fun w => by kernel_rfl)) ?_
    refine ok_cons (ok_mv (Or.inl rfl) (by kernel_rfl) rfl (by kernel_rfl) (by kernel_rfl)) ?_
    refine ok_cons (ok_faddr (b := 0) (off := 0) (off' := 4) (fun w q => by kernel_rfl) rfl (by kernel_rfl) rfl (by kernel_rfl) (by kernel_rfl)) ?_
    refine ok_cons (ok_load (b := 0) (off := 4) (c := ces [x1, b1]) (v := el (dig b1)) (ld_ces (l := [x1, b1]) (k := 1) (n := b1) 31 rfl) rfl (by kernel_rfl) rfl (by kernel_rfl) (by kernel_rfl) (by kernel_rfl)) ?_
    refine ok_cons (ok_faddr (b := 1) (off := 0) (off' := 4) (fun w q => by kernel_rfl) rfl (by kernel_rfl) rfl (by kernel_rfl) (by kernel_rfl)) ?_
    refine ok_cons (ok_load (b := 1) (off := 4) (c := ces [x2, b2]) (v := el (dig b2)) (ld_ces (l := [x2, b2]) (k := 1) (n := b2) 31 rfl) rfl (by kernel_rfl) rfl (by kernel_rfl) (by kernel_rfl) (by kernel_rfl)) ?_
    refine ok_cons (ok_call (vs := #[el (dig b1), el (dig b2)]) (R := .bool false) (fun w => is_f hb1 hb2 e2 w) rfl (by kernel_rfl) rfl (by kernel_rfl) (by kernel_rfl) (by kernel_rfl) (fun w => by kernel_rfl)) ?_
    refine ok_cons (ok_pick_t rfl (by kernel_rfl) rfl (by kernel_rfl) (by kernel_rfl) (by kernel_rfl) (by kernel_rfl)) ?_
    refine ok_cons (ok_mv (Or.inr rfl) (by kernel_rfl) rfl (by kernel_rfl) (by kernel_rfl)) ?_
    exact ok_nil
  clear h; intro β a w h
  refine sym_then ?_
  refine wp_ret ?_
  exact sym_ret h Try.results18 (by kernel_rfl) (by kernel_rfl) (fun hb => ⟨rfl, hb⟩)

set_option maxHeartbeats 4000000 in
theorem is_pf {x1 b1 x2 b2 : Nat} (hx1 : x1 < pp) (hx2 : x2 < pp) (e1 : x1 ≠ x2) (W0 : World) : Calls Try.prog 18 #[.agg (ces [x1, b1]), .agg (ces [x2, b2])] W0 fun e w' => e = .returned (.bool false) ∧ Below W0.heap.size W0 w' := by
  refine sym_enter Try.func18 Try.ntmps18 rfl [.inl (.agg (ces [x1, b1])), .inl (.agg (ces [x2, b2])), uu, uu, uu, uu, uu, uu, uu, uu, uu, uu, uu, uu, uu, uu, uu] (by kernel_rfl) (by kernel_rfl) ?_
  intro β a h
  refine sym_seq ?_
  refine St.region h [.inl (.agg (ces [x1, b1])), .inl (.agg (ces [x2, b2])), .inr (0, 0), .inr (1, 0), .inl (.bool false), uu, uu, uu, uu, uu, uu, uu, uu, uu, uu, uu, uu] [(ces [x1, b1], 31), (ces [x2, b2], 31)] [(ces [x1, b1], 31), (ces [x2, b2], 31)] [#[], #[]] [⟨some 0, none, none, false⟩, ⟨some 1, none, none, false⟩, nn] (by kernel_rfl) (by kernel_rfl) (by kernel_rfl) (by kernel_rfl) (by kernel_rfl) (by kernel_rfl) (by kernel_rfl) (by kernel_rfl) ?_ ?_
  · refine ok_cons (ok_box (b := 0) (u := .agg (ces [x1, b1])) (bxP (a := x1) (b := b1)) rfl (by kernel_rfl) rfl (by kernel_rfl) (by kernel_rfl) (by kernel_rfl) (by kernel_rfl)) ?_
    refine ok_cons (ok_box (b := 1) (u := .agg (ces [x2, b2])) (bxP (a := x2) (b := b2)) rfl (by kernel_rfl) rfl (by kernel_rfl) (by kernel_rfl) (by kernel_rfl) (by kernel_rfl)) ?_
    refine ok_cons (ok_mv (Or.inr rfl) (by kernel_rfl) rfl (by kernel_rfl) (by kernel_rfl)) ?_
    exact ok_nil
  clear h; intro β a w h
  refine sym_then ?_
  refine sym_seq ?_
  refine St.region h [.inl (.agg (ces [x1, b1])), .inl (.agg (ces [x2, b2])), .inr (0, 0), .inr (1, 0), .inl (.bool false), .inr (0, 0), .inl (el (dig x1)), .inr (1, 0), .inl (el (dig x2)), .inl (.bool false), .inl (.bool false), uu, uu, uu, uu, uu, .inl (.bool false)] [(ces [x1, b1], 31), (ces [x2, b2], 31)] [(ces [x1, b1], 31), (ces [x2, b2], 31)] [#[], #[]] [nn, ⟨none, none, some 0, false⟩, nn, ⟨none, none, some 1, false⟩, nn, nn, nn, nn, nn, nn, nn, nn, nn] (by kernel_rfl) (by kernel_rfl) (by kernel_rfl) (by kernel_rfl) (by kernel_rfl) (by kernel_rfl) (by kernel_rfl) (by kernel_rfl) ?_ ?_
  · refine ok_cons (ok_faddr (b := 0) (off := 0) (off' := 0) (fun w q => by kernel_rfl) rfl (by kernel_rfl) rfl (by kernel_rfl) (by kernel_rfl)) ?_
    refine ok_cons (ok_load (b := 0) (off := 0) (c := ces [x1, b1]) (v := el (dig x1)) (ld_ces (l := [x1, b1]) (k := 0) (n := x1) 31 rfl) rfl (by kernel_rfl) rfl (by kernel_rfl) (by kernel_rfl) (by kernel_rfl)) ?_
    refine ok_cons (ok_faddr (b := 1) (off := 0) (off' := 0) (fun w q => by kernel_rfl) rfl (by kernel_rfl) rfl (by kernel_rfl) (by kernel_rfl)) ?_
    refine ok_cons (ok_load (b := 1) (off := 0) (c := ces [x2, b2]) (v := el (dig x2)) (ld_ces (l := [x2, b2]) (k := 0) (n := x2) 31 rfl) rfl (by kernel_rfl) rfl (by kernel_rfl) (by kernel_rfl) (by kernel_rfl)) ?_
    refine ok_cons (ok_call (vs := #[el (dig x1), el (dig x2)]) (R := .bool false) (fun w => is_f hx1 hx2 e1 w) rfl (by kernel_rfl) rfl (by kernel_rfl) (by kernel_rfl) (by kernel_rfl) (fun w => by kernel_rfl)) ?_
    refine ok_cons (ok_mv (Or.inl rfl) (by kernel_rfl) rfl (by kernel_rfl) (by kernel_rfl)) ?_
    refine ok_cons (ok_skip (by kernel_rfl) rfl (by kernel_rfl)) ?_
    refine ok_cons (ok_skip (by kernel_rfl) rfl (by kernel_rfl)) ?_
    refine ok_cons (ok_skip (by kernel_rfl) rfl (by kernel_rfl)) ?_
    refine ok_cons (ok_skip (by kernel_rfl) rfl (by kernel_rfl)) ?_
    refine ok_cons (ok_skip (by kernel_rfl) rfl (by kernel_rfl)) ?_
    refine ok_cons (ok_pick_f rfl (by kernel_rfl) rfl (by kernel_rfl) (by kernel_rfl) (by kernel_rfl) (by kernel_rfl)) ?_
    refine ok_cons (ok_mv (Or.inr rfl) (by kernel_rfl) rfl (by kernel_rfl) (by kernel_rfl)) ?_
    exact ok_nil
  clear h; intro β a w h
  refine sym_then ?_
  refine wp_ret ?_
  exact sym_ret h Try.results18 (by kernel_rfl) (by kernel_rfl) (fun hb => ⟨rfl, hb⟩)

set_option maxHeartbeats 4000000 in
theorem gen_r (W0 : World) : Calls Try.prog 21 #[] W0 fun e w' => e = .returned (.agg (ces [gX, sb (mu 4 (inv 5)) 1])) ∧ Below W0.heap.size W0 w' := by
  refine sym_enter Try.func21 Try.ntmps21 rfl [uu, uu, uu, uu, uu, uu, uu, uu, uu] (by kernel_rfl) (by kernel_rfl) ?_
  intro β a h
  refine sym_seq ?_
  refine St.region h [.inr (0, 0), uu, uu, uu, uu, uu, uu, uu, uu] [(ces [0, 0], 31)] [(ces [0, 0], 31)] [#[]] [⟨some 0, none, none, false⟩] (by kernel_rfl) (by kernel_rfl) (by kernel_rfl) (by kernel_rfl) (by kernel_rfl) (by kernel_rfl) (by kernel_rfl) (by kernel_rfl) ?_ ?_
  · refine ok_cons (ok_alloc (b := 0) alP rfl (by kernel_rfl) rfl (by kernel_rfl) (by kernel_rfl)) ?_
    exact ok_nil
  clear h; intro β a w h
  refine sym_then ?_
  refine sym_seq ?_
  refine St.region h [.inr (0, 0), .inr (1, 0), .inl (.agg (ck (kl [26, 213, 37, 143, 96, 45, 86, 201, 178, 167, 37, 149, 96, 199, 44, 105, 92, 220, 214, 253, 49, 226, 164, 192, 254, 83, 110, 205, 211, 54, 105, 33]))), .inl (el (dig gX)), uu, uu, uu, uu, uu] [(ces [0, 0], 31), (ce gX, 29)] [(ces [0, 0], 31), (ce 0, 29)] [#[], ce gX] [nn, nn, ⟨some 1, none, none, false⟩, ⟨none, some 1, none, false⟩] (by kernel_rfl) (by kernel_rfl) (by kernel_rfl) (by kernel_rfl) (by kernel_rfl) (by kernel_rfl) (by kernel_rfl) (by kernel_rfl) ?_ ?_
  · refine ok_cons (ok_build (vs := #[(0, .int .u8 ((26 : Nat) : Int)), (1, .int .u8 ((213 : Nat) : Int)), (2, .int .u8 ((37 : Nat) : Int)), (3, .int .u8 ((143 : Nat) : Int)), (4, .int .u8 ((96 : Nat) : Int)), (5, .int .u8 ((45 : Nat) : Int)), (6, .int .u8 ((86 : Nat) : Int)), (7, .int .u8 ((201 : Nat) : Int)), (8, .int .u8 ((178 : Nat) : Int)), (9, .int .u8 ((167 : Nat) : Int)), (10, .int .u8 ((37 : Nat) : Int)), (11, .int .u8 ((149 : Nat) : Int)), (12, .int .u8 ((96 : Nat) : Int)), (13, .int .u8 ((199 : Nat) : Int)), (14, .int .u8 ((44 : Nat) : Int)), (15, .int .u8 ((105 : Nat) : Int)), (16, .int .u8 ((92 : Nat) : Int)), (17, .int .u8 ((220 : Nat) : Int)), (18, .int .u8 ((214 : Nat) : Int)), (19, .int .u8 ((253 : Nat) : Int)), (20, .int .u8 ((49 : Nat) : Int)), (21, .int .u8 ((226 : Nat) : Int)), (22, .int .u8 ((164 : Nat) : Int)), (23, .int .u8 ((192 : Nat) : Int)), (24, .int .u8 ((254 : Nat) : Int)), (25, .int .u8 ((83 : Nat) : Int)), (26, .int .u8 ((110 : Nat) : Int)), (27, .int .u8 ((205 : Nat) : Int)), (28, .int .u8 ((211 : Nat) : Int)), (29, .int .u8 ((54 : Nat) : Int)), (30, .int .u8 ((105 : Nat) : Int)), (31, .int .u8 ((33 : Nat) : Int))]) (v := .agg (ck (kl [26, 213, 37, 143, 96, 45, 86, 201, 178, 167, 37, 149, 96, 199, 44, 105, 92, 220, 214, 253, 49, 226, 164, 192, 254, 83, 110, 205, 211, 54, 105, 33]))) (fun w => by kernel_rfl) rfl (by kernel_rfl) rfl (by kernel_rfl) (by kernel_rfl) (by kernel_rfl)) ?_
    refine ok_cons (ok_call (vs := #[.agg (ck (kl [26, 213, 37, 143, 96, 45, 86, 201, 178, 167, 37, 149, 96, 199, 44, 105, 92, 220, 214, 253, 49, 226, 164, 192, 254, 83, 110, 205, 211, 54, 105, 33]))]) (R := el (dig gX)) (fun w => by have := of_k (b := (kl [26, 213, 37, 143, 96, 45, 86, 201, 178, 167, 37, 149, 96, 199, 44, 105, 92, 220, 214, 253, 49, 226, 164, 192, 254, 83, 110, 205, 211, 54, 105, 33])) (kl_lt (by decide)) w; rwa [show ofb (kl [26, 213, 37, 143, 96, 45, 86, 201, 178, 167, 37, 149, 96, 199, 44, 105, 92, 220, 214, 253, 49, 226, 164, 192, 254, 83, 110, 205, 211, 54, 105, 33]) = gX by decide +kernel] at this) rfl (by kernel_rfl) rfl (by kernel_rfl) (by kernel_rfl) (by kernel_rfl) (fun w => by kernel_rfl)) ?_
    refine ok_cons (ok_alloc (b := 1) alE rfl (by kernel_rfl) rfl (by kernel_rfl) (by kernel_rfl)) ?_
    refine ok_cons (ok_store (b := 1) (off := 0) (u := el (dig gX)) (c := ce 0) (n := ce gX) (stE (n := gX) (c := ce 0) 29 (ce_size _)) rfl (by kernel_rfl) rfl (by kernel_rfl) (by kernel_rfl) (by kernel_rfl) (by kernel_rfl) (by kernel_rfl)) ?_
    exact ok_nil
  clear h; intro β a w h
  refine sym_then ?_
  refine sym_seq ?_
  refine St.region h [.inr (0, 0), .inr (1, 0), .inl (.agg (ck (kl [26, 213, 37, 143, 96, 45, 86, 201, 178, 167, 37, 149, 96, 199, 44, 105, 92, 220, 214, 253, 49, 226, 164, 192, 254, 83, 110, 205, 211, 54, 105, 33]))), .inl (el (dig gX)), .inl (el (dig gX)), .inl (el (dig 4)), .inl (el (dig 5)), .inl (el (dig (mu 4 (inv 5)))), .inl (.agg (ces [gX, (sb (mu 4 (inv 5)) 1)]))] [(ces [gX, (sb (mu 4 (inv 5)) 1)], 31), (ce gX, 29)] [(ces [0, 0], 31), (ce gX, 29)] [ces [gX, (sb (mu 4 (inv 5)) 1)], #[]] [⟨none, none, some 1, false⟩, nn, nn, nn, nn, ⟨none, some 0, none, false⟩] (by kernel_rfl) (by kernel_rfl) (by kernel_rfl) (by kernel_rfl) (by kernel_rfl) (by kernel_rfl) (by kernel_rfl) (by kernel_rfl) ?_ ?_
  · refine ok_cons (ok_load (b := 1) (off := 0) (c := ce gX) (v := el (dig gX)) (ldE (n := gX) 29) rfl (by kernel_rfl) rfl (by kernel_rfl) (by kernel_rfl) (by kernel_rfl)) ?_
    refine ok_cons (ok_call (vs := #[.int .i64 ((4 : Nat) : Int)]) (R := el (dig 4)) (fun w => int_m (m := 4) (by decide) w) rfl (by kernel_rfl) rfl (by kernel_rfl) (by kernel_rfl) (by kernel_rfl) (fun w => by kernel_rfl)) ?_
    refine ok_cons (ok_call (vs := #[.int .i64 ((5 : Nat) : Int)]) (R := el (dig 5)) (fun w => int_m (m := 5) (by decide) w) rfl (by kernel_rfl) rfl (by kernel_rfl) (by kernel_rfl) (by kernel_rfl) (fun w => by kernel_rfl)) ?_
    refine ok_cons (ok_call (vs := #[el (dig 4), el (dig 5)]) (R := el (dig (mu 4 (inv 5)))) (fun w => over_m four_ltp five_ltp w) rfl (by kernel_rfl) rfl (by kernel_rfl) (by kernel_rfl) (by kernel_rfl) (fun w => by kernel_rfl)) ?_
    refine ok_cons (ok_call (vs := #[el (dig gX), el (dig (mu 4 (inv 5)))]) (R := .agg (ces [gX, (sb (mu 4 (inv 5)) 1)])) (fun w => at_r (mu_lt _ _) w) rfl (by kernel_rfl) rfl (by kernel_rfl) (by kernel_rfl) (by kernel_rfl) (fun w => by kernel_rfl)) ?_
    refine ok_cons (ok_store (b := 0) (off := 0) (u := .agg (ces [gX, (sb (mu 4 (inv 5)) 1)])) (c := ces [0, 0]) (n := ces [gX, (sb (mu 4 (inv 5)) 1)]) (stP (a := gX) (b := (sb (mu 4 (inv 5)) 1)) (c := ces [0, 0]) 31 (by rw [ces_size]; rfl)) rfl (by kernel_rfl) rfl (by kernel_rfl) (by kernel_rfl) (by kernel_rfl) (by kernel_rfl) (by kernel_rfl)) ?_
    exact ok_nil
  clear h; intro β a w h
  refine sym_then ?_
  refine wp_ret ?_
  exact sym_retc (b := 0) (t0 := 31) (c := ces [gX, (sb (mu 4 (inv 5)) 1)]) h Try.results21 (by kernel_rfl) (by kernel_rfl) (by kernel_rfl) Try.underlying31 rfl (by rw [ces_size]; kernel_rfl) (fun hb => ⟨rfl, hb⟩)
end Go.Proofs.Ytgiemldmphbolaa

namespace Go.Proofs.Ytgiemldmphbolaa
open Go.RowKit

set_option maxRecDepth 100000 in
theorem eqK_run (F G : Nat → Nat) (w : World) : ∃ b : Bool, (b = true ↔ ∀ i, i < 32 → F i = G i) ∧ (Op.equalIn 10000 23 (.agg (ck F)) (.agg (ck G))).run Try.prog w = .ok b w := by
  refine ⟨_, ?_, eq_ints (P := Try.prog) (t := 23) (e := 5) (n := 32) (k := .u8) (k' := .u8) Try.underlying23 (inf := _) rfl (by kernel_rfl) Try.underlying5 (fun _ => by kernel_rfl) (ck F) (ck G) (fun i => (F i : Int)) (fun i => (G i : Int)) (fun i hi => arr_get _ _ _ hi) (fun i hi => arr_get _ _ _ hi) w⟩
  rw [decide_eq_true_eq]
  constructor <;> intro hh i hi <;> have := hh i hi <;> omega
section
variable {x u : Operand}
theorem neK_f {F G : Nat → Nat} (h : ∀ i, i < 32 → F i = G i) (w : World) : (do eqGuard .neq 23 x u (.agg (ck F)) (.agg (ck G)); binOp .neq 23 (.agg (ck F)) (.agg (ck G))).run Try.prog w = .ok (.bool false) w := by
  obtain ⟨b, hb, h1⟩ := eqK_run F G w
  obtain rfl : b = true := hb.2 h
  simp [eqGuard, binOp, go_sem, Op.equal, Op.maxDepth, h1]
theorem neK_t {F G : Nat → Nat} (h : ¬ ∀ i, i < 32 → F i = G i) (w : World) : (do eqGuard .neq 23 x u (.agg (ck F)) (.agg (ck G)); binOp .neq 23 (.agg (ck F)) (.agg (ck G))).run Try.prog w = .ok (.bool true) w := by
  obtain ⟨b, hb, h1⟩ := eqK_run F G w
  obtain rfl : b = false := by
    cases b with
    | false => rfl
    | true => exact absurd (hb.1 rfl) h
  simp [eqGuard, binOp, go_sem, Op.equal, Op.maxDepth, h1]
theorem eqK_f {F G : Nat → Nat} (h : ¬ ∀ i, i < 32 → F i = G i) (w : World) : (do eqGuard .eql 23 x u (.agg (ck F)) (.agg (ck G)); binOp .eql 23 (.agg (ck F)) (.agg (ck G))).run Try.prog w = .ok (.bool false) w := by
  obtain ⟨b, hb, h1⟩ := eqK_run F G w
  obtain rfl : b = false := by
    cases b with
    | false => rfl
    | true => exact absurd (hb.1 rfl) h
  simp [eqGuard, binOp, go_sem, Op.equal, Op.maxDepth, h1]
end
/-- An element's last byte has no topmost bit. -/
theorem byt_top {n : Nat} (hn : n < pp) : byt (dig n) 31 < 128 := by
  show dig n 3 / 256 ^ 7 % 256 < 128
  have h : dig n 3 = n / 6277101735386680763835789423207666416102355444464034512896 % 18446744073709551616 := rfl
  rw [h]
  have hp : pp = 57896044618658097711785492504343953926634992332820282019728792003956564819949 := rfl
  rw [hp] at hn
  have h2 : n / 6277101735386680763835789423207666416102355444464034512896 < 9223372036854775808 := by omega
  generalize n / 6277101735386680763835789423207666416102355444464034512896 = q at *
  rw [Nat.mod_eq_of_lt (by omega)]
  have h3 : q / 256 ^ 7 < 128 := by
    rw [Nat.div_lt_iff_lt_mul (by decide)]
    exact h2
  omega
end Go.Proofs.Ytgiemldmphbolaa

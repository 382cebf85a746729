/- M7, X7, X9, Ref5, M8, Ref6a, Ref6c, Ref7, P4, Crv5, PtsMath, PtsOf, P7, E1, E2, ManyS, Pcon, E3, E4: laid together. -/
import Derived.Laws.CopyRow
import Derived.Test.YtacokkedomjgpaaGreatDoorG6
import Derived.Test.YtacokkedomjgpaaGreatDoorG2
import Derived.Test.YtacokkedomjgpaaGreatDoorG4
import Derived.Test.YtacokkedomjgpaaGreatDoorG5
namespace Go.Proofs.YtacokkedomjgpaaGreatDoor

def bt (B i : Nat) : Nat := B / 2 ^ i % 2
theorem bt_lt (B i : Nat) : bt B i < 2 := Nat.mod_lt _ (by omega)
theorem bt_mod {B s r : Nat} (h : r < s) : bt (B % 2 ^ s) r = bt B r := by
  have h1 := Nat.testBit_mod_two_pow B s r
  rw [Nat.testBit_eq_decide_div_mod_eq, Nat.testBit_eq_decide_div_mod_eq] at h1
  simp only [h, decide_true, Bool.true_and, decide_eq_decide] at h1
  unfold bt
  omega
theorem bt_dig {B s i : Nat} (hs : 0 < s) : bt (B / (2 ^ s) ^ (i / s) % 2 ^ s) (i % s) = bt B i := by
  rw [bt_mod (Nat.mod_lt _ hs)]
  unfold bt
  rw [← Nat.pow_mul, Nat.div_div_eq_div_mul, ← Nat.pow_add, Nat.div_add_mod]
theorem mod_bit (B i : Nat) : B % 2 ^ (i + 1) = B % 2 ^ i + bt B i * 2 ^ i := by
  unfold bt
  rw [Nat.pow_succ, Nat.mod_mul, Nat.mul_comm]
theorem bit_step {s : Nat} (hs : 0 < s) (B i j : Nat) : B % 2 ^ (i + 1) / (2 ^ s) ^ j % 2 ^ s = if j = i / s then B % 2 ^ i / (2 ^ s) ^ j % 2 ^ s + bt B i * 2 ^ (i % s) else B % 2 ^ i / (2 ^ s) ^ j % 2 ^ s := by
  have hp : ∀ k, 0 < (2 ^ s) ^ k := fun k => Nat.pow_pos (Nat.pow_pos (by omega))
  have hr : i % s < s := Nat.mod_lt _ hs
  have hi : 2 ^ i = 2 ^ (i % s) * (2 ^ s) ^ (i / s) := by rw [← Nat.pow_mul, ← Nat.pow_add, Nat.mod_add_div]
  have hx : B % 2 ^ i < 2 ^ i := Nat.mod_lt _ (Nat.pow_pos (by omega))
  have hb := bt_lt B i
  rw [mod_bit, hi, ← Nat.mul_assoc]
  rw [hi] at hx
  generalize B % (2 ^ (i % s) * (2 ^ s) ^ (i / s)) = x at *
  generalize bt B i = c at *
  have hpr : 2 ^ (i % s) * 2 ≤ 2 ^ s := by rw [← Nat.pow_succ]; exact Nat.pow_le_pow_right (by omega) hr
  generalize i / s = q at *
  generalize i % s = r at *
  by_cases e : j = q
  · subst e
    rw [if_pos rfl, Nat.add_mul_div_right _ _ (hp j)]
    have h1 : x / (2 ^ s) ^ j < 2 ^ r := Nat.div_lt_of_lt_mul (by rw [Nat.mul_comm]; exact hx)
    have h2 : c * 2 ^ r ≤ 1 * 2 ^ r := Nat.mul_le_mul_right _ (by omega)
    rw [Nat.mod_eq_of_lt (by omega), Nat.mod_eq_of_lt (by omega)]
  · rw [if_neg e]
    rcases Nat.lt_or_ge j q with h | h
    · obtain ⟨d, rfl⟩ : ∃ d, q = d + 1 + j := ⟨q - (j + 1), by omega⟩
      have h1 : c * 2 ^ r * (2 ^ s) ^ (d + 1 + j) = c * 2 ^ r * (2 ^ s) ^ d * 2 ^ s * (2 ^ s) ^ j := by
        rw [Nat.pow_add, Nat.pow_succ]; simp only [Nat.mul_assoc]
      rw [h1, Nat.add_mul_div_right _ _ (hp j), Nat.add_mul_mod_self_right]
    · have hle : (2 ^ s) ^ (q + 1) ≤ (2 ^ s) ^ j := Nat.pow_le_pow_right (Nat.pow_pos (by omega)) (by omega)
      have h2 : c * 2 ^ r * (2 ^ s) ^ q ≤ 2 ^ r * (2 ^ s) ^ q := Nat.mul_le_mul_right _ (by have : c * 2 ^ r ≤ 1 * 2 ^ r := Nat.mul_le_mul_right _ (by omega); omega)
      have h3 : 2 ^ r * 2 * (2 ^ s) ^ q ≤ 2 ^ s * (2 ^ s) ^ q := Nat.mul_le_mul_right _ hpr
      have h4 : 2 ^ r * 2 * (2 ^ s) ^ q = 2 ^ r * (2 ^ s) ^ q + 2 ^ r * (2 ^ s) ^ q := by
        rw [Nat.mul_assoc, Nat.mul_comm 2, ← Nat.mul_assoc, Nat.mul_two]
      have h5 : (2 ^ s) ^ (q + 1) = 2 ^ s * (2 ^ s) ^ q := by rw [Nat.pow_succ, Nat.mul_comm]
      rw [Nat.div_eq_of_lt (by omega), Nat.div_eq_of_lt (by omega)]

def ofF (B i j : Nat) : Nat := dg (B % 2 ^ i) j
def btk (B i k : Nat) : Nat := bt B i * 2 ^ k
theorem btk_le (B i : Nat) {k : Nat} (hk : k ≤ 11) : btk B i k ≤ 2048 := by
  have h1 := bt_lt B i
  have h2 : bt B i * 2 ^ k ≤ 1 * 2 ^ 11 := Nat.mul_le_mul (by omega) (Nat.pow_le_pow_right (by omega) hk)
  unfold btk; omega
theorem btk_next (B i k : Nat) : 2 * btk B i k = btk B i (k + 1) := by unfold btk; rw [Nat.pow_succ, Nat.mul_comm 2, Nat.mul_assoc]
theorem ofF_zero (B : Nat) : ai 44 (fun _ => 0) = ai 44 (ofF B 0) := ai_congr fun i _ => by simp [ofF, Nat.mod_one, dg]
theorem ofF_next (B i : Nat) : ai 44 (updN (ofF B i) (i / 12) (ofF B i (i / 12) + btk B i (i % 12))) = ai 44 (ofF B (i + 1)) := ai_congr fun j _ => by
  have h := bit_step (s := 12) (by omega) B i j
  rw [show (2 : Nat) ^ 12 = 4096 from rfl] at h
  unfold updN ofF btk dg
  rw [h]
  by_cases e : j = i / 12
  · rw [if_pos e, if_pos e, e]
  · rw [if_neg e, if_neg e]
theorem ofF_lt (B i j : Nat) : ofF B i j < 1099511627776 := by have := dg_lt (B % 2 ^ i) j; unfold ofF; omega
theorem ofF_small (B i j : Nat) : ofF B i j < 4096 := dg_lt _ _
theorem ofF_pv (B : Nat) : pv (ofF B 255) 44 = B % 2 ^ 255 := by
  have h : pv (ofF B 255) 44 = pv (dg (B % 2 ^ 255)) 44 := rfl
  rw [h, pv_dg]
  refine Nat.mod_eq_of_lt (Nat.lt_trans (Nat.mod_lt _ (Nat.pow_pos (by omega))) ?_)
  decide +kernel
theorem nb_low {b : Nat → Nat} (hb : ∀ i, b i < 256) : ∀ k j, j < k → nb b k / 256 ^ j % 256 = b j := by
  intro k
  induction k with
  | zero => intro j h; omega
  | succ k ih =>
    intro j h
    rw [nb]
    by_cases e : j = k
    · subst e
      rw [Nat.add_mul_div_right _ _ (Nat.pow_pos (by omega)), Nat.div_eq_of_lt (nb_lt hb j), Nat.zero_add, Nat.mod_eq_of_lt (hb j)]
    · obtain ⟨d, rfl⟩ : ∃ d, k = d + 1 + j := ⟨k - (j + 1), by omega⟩
      have h1 : b (d + 1 + j) * 256 ^ (d + 1 + j) = b (d + 1 + j) * 256 ^ d * 256 * 256 ^ j := by
        rw [Nat.pow_add, Nat.pow_succ]; simp only [Nat.mul_assoc]
      rw [h1, Nat.add_mul_div_right _ _ (Nat.pow_pos (by omega)), Nat.add_mul_mod_self_right]
      exact ih j (by omega)
theorem bt_byte {b : Nat → Nat} (hb : ∀ i, b i < 256) {i : Nat} (hi : i < 256) : b (i / 8) / 2 ^ (i % 8) % 2 = btk (nb b 32) i 0 := by
  have h := bt_dig (B := nb b 32) (s := 8) (i := i) (by omega)
  rw [show (2 : Nat) ^ 8 = 256 from rfl, nb_low hb 32 (i / 8) (by omega)] at h
  unfold btk
  rw [Nat.pow_zero, Nat.mul_one, ← h]; rfl
theorem bt_fig (n i : Nat) : dg n (i / 12) / 2 ^ (i % 12) % 2 = bt n i := by
  have h := bt_dig (B := n) (s := 12) (i := i) (by omega)
  rw [show (2 : Nat) ^ 12 = 4096 from rfl] at h
  rw [← h]; rfl
theorem ofb_eq (b : Nat → Nat) : nb b 32 % 2 ^ 255 % pp = ofb b := rfl

def keF (n i j : Nat) : Nat := n % 2 ^ i / 256 ^ j % 256
theorem keF_lt (n i j : Nat) : keF n i j < 256 := Nat.mod_lt _ (by omega)
theorem keF_zero (n : Nat) : ck (fun _ => 0) = ck (keF n 0) := ck_congr fun i _ => by simp [keF, Nat.mod_one]
theorem keF_one {n i : Nat} (h : bt n i = 1) : ck (updN (keF n i) (i / 8) (keF n i (i / 8) + 2 ^ (i % 8))) = ck (keF n (i + 1)) := ck_congr fun j _ => by
  have h0 := bit_step (s := 8) (by omega) n i j
  rw [show (2 : Nat) ^ 8 = 256 from rfl, h, Nat.one_mul] at h0
  unfold updN keF
  rw [h0]
  by_cases e : j = i / 8
  · rw [if_pos e, if_pos e, e]
  · rw [if_neg e, if_neg e]
theorem keF_none {n i : Nat} (h : bt n i = 0) : ck (keF n i) = ck (keF n (i + 1)) := ck_congr fun j _ => by
  have h0 := bit_step (s := 8) (by omega) n i j
  rw [show (2 : Nat) ^ 8 = 256 from rfl, h, Nat.zero_mul, Nat.add_zero] at h0
  unfold keF
  rw [h0]; split <;> rfl
theorem keF_room {n i : Nat} (h : bt n i = 1) : keF n i (i / 8) + 2 ^ (i % 8) < 256 := by
  have h0 := bit_step (s := 8) (by omega) n i (i / 8)
  rw [if_pos rfl, show (2 : Nat) ^ 8 = 256 from rfl, h, Nat.one_mul] at h0
  unfold keF
  rw [← h0]; exact Nat.mod_lt _ (by omega)
def kb (n j : Nat) : Nat := n / 256 ^ j % 256
theorem keF_end {n : Nat} (h : n < 2 ^ 256) : ck (keF n 256) = ck (kb n) := ck_congr fun j _ => by
  unfold keF kb; rw [Nat.mod_eq_of_lt h]
theorem byt_kb (n : Nat) : ∀ j, j < 32 → byt (dig n) j = kb n j := by
  intro j hj
  have hq : j / 8 = 0 ∨ j / 8 = 1 ∨ j / 8 = 2 ∨ j / 8 = 3 := by omega
  have hp : (256 : Nat) ^ j = 256 ^ (8 * (j / 8)) * 256 ^ (j % 8) := by rw [← Nat.pow_add, Nat.div_add_mod]
  unfold byt kb
  rw [hp, ← Nat.div_div_eq_div_mul]
  have hr : j % 8 < 8 := Nat.mod_lt _ (by omega)
  -- a word, and what stands above it
  have key : ∀ y, y % 18446744073709551616 / 256 ^ (j % 8) % 256 = y / 256 ^ (j % 8) % 256 := by
    intro y
    have e1 : y = y % 18446744073709551616 + 18446744073709551616 * (y / 18446744073709551616) := (Nat.mod_add_div _ _).symm
    have e2 : (18446744073709551616 : Nat) = 256 ^ (j % 8) * (256 ^ (7 - j % 8) * 256) := by
      rw [← Nat.pow_succ, ← Nat.pow_add, show j % 8 + (7 - j % 8).succ = 8 by omega]
    conv => rhs; rw [e1]
    conv => rhs; rw [show 18446744073709551616 * (y / 18446744073709551616) = 256 ^ (j % 8) * ((256 ^ (7 - j % 8) * (y / 18446744073709551616)) * 256) by
      conv => lhs; arg 1; rw [e2]
      simp only [Nat.mul_assoc, Nat.mul_comm 256 _]]
    rw [Nat.add_mul_div_left _ _ (Nat.pow_pos (by omega)), Nat.add_mul_mod_self_right]
  rcases hq with h | h | h | h <;> rw [h]
  · show n % 18446744073709551616 / _ % 256 = _
    rw [key]; simp
  · show n / 18446744073709551616 % 18446744073709551616 / _ % 256 = _
    rw [key]
  · show n / 340282366920938463463374607431768211456 % 18446744073709551616 / _ % 256 = _
    rw [key]
  · show n / 6277101735386680763835789423207666416102355444464034512896 % 18446744073709551616 / _ % 256 = _
    rw [key]
end Go.Proofs.YtacokkedomjgpaaGreatDoor

namespace Go.Proofs.YtacokkedomjgpaaGreatDoor
open Go.RowKit

section
variable {P : Program} {W : Wd} {ops : Array Oper} {s0 s1 : List SV} {z : List Blk} {y : List (Array Value)} {o : Oper}
end
section
variable {x u : Operand}
end
theorem lt_big {m : Nat} (h : m < pp) : m < 4096 ^ 22 := Nat.lt_trans h pp_big

def inF (N k j : Nat) : Nat := if j < k then dg N j else 0
def nq (N k : Nat) : Nat := N / 4096 ^ k
theorem nq_zero (N : Nat) : N = nq N 0 := by simp [nq]
theorem nq_next (N k : Nat) : nq N k / 4096 = nq N (k + 1) := by unfold nq; rw [Nat.div_div_eq_div_mul, ← Nat.pow_succ]
theorem nq_le (N k : Nat) : nq N k ≤ N := Nat.div_le_self _ _
theorem inF_zero (N : Nat) : ai 44 (fun _ => 0) = ai 44 (inF N 0) := ai_congr fun i _ => by simp [inF]
theorem inF_next (N k : Nat) : ai 44 (updN (inF N k) k (nq N k % 4096)) = ai 44 (inF N (k + 1)) := ai_congr fun i _ => by
  unfold updN inF nq
  by_cases e : i = k
  · subst e; simp [dg]
  · have : (i < k + 1) = (i < k) := by simp; omega
    simp [e, this]
theorem inF_lt (N k i : Nat) : inF N k i < 1099511627776 := by
  unfold inF
  have := dg_lt N i
  split <;> omega
theorem inF_pv {N : Nat} (h : N < 9223372036854775808) : pv (inF N 6) 44 = N := by
  have h1 : pv (inF N 6) 44 = pv (inF N 6) 6 := pv_zero (a := 6) 38 (fun j h1 _ => by unfold inF; rw [if_neg (by omega)])
  have h2 : pv (inF N 6) 6 = pv (dg N) 6 := pv_congr 6 fun i hi => by unfold inF; rw [if_pos hi]
  rw [h1, h2, pv_dg, Nat.mod_eq_of_lt (Nat.lt_trans h (by decide))]
end Go.Proofs.YtacokkedomjgpaaGreatDoor

namespace Go.Proofs.YtacokkedomjgpaaGreatDoor
open Go.RowKit

def cis (l : List Nat) : Array Value := (l.flatMap fun n => (ai 22 (dg n)).toList).toArray
theorem ail (n : Nat) : (ai 22 (dg n)).toList.length = 22 := by simp [ai_size]
theorem cis_size (l : List Nat) : (cis l).size = 22 * l.length := by
  unfold cis
  simp only [List.size_toArray]
  induction l with
  | nil => rfl
  | cons n l ih => rw [List.flatMap_cons, List.length_append, ih, ail, List.length_cons]; omega
theorem cis_get : ∀ (l : List Nat) (k n j : Nat), l[k]? = some n → j < 22 → (cis l)[22 * k + j]? = some (.int .i64 (dg n j : Nat)) := by
  intro l
  induction l with
  | nil => intro k n j h; simp at h
  | cons m l ih =>
    intro k n j h hj
    unfold cis at *
    simp only [List.getElem?_toArray, List.flatMap_cons]
    cases k with
    | zero =>
      simp at h; subst h
      rw [List.getElem?_append_left (by rw [ail]; omega)]
      have : (ai 22 (dg m))[j]? = some (.int .i64 (dg m j : Nat)) := arr_get _ _ _ hj
      simpa using this
    | succ k =>
      rw [List.getElem?_append_right (by rw [ail]; omega)]
      have := ih k n j (by simpa using h) hj
      simp only [List.getElem?_toArray] at this
      rw [← this, ail]
      congr 1
      omega
theorem cis_one (l : List Nat) : (cis l).all (·.oneCell') = true := by
  rw [Array.all_eq_true_iff_forall_mem]
  intro v hv
  unfold cis at hv
  simp only [List.mem_toArray, List.mem_flatMap] at hv
  obtain ⟨n, _, h⟩ := hv
  exact Array.all_eq_true_iff_forall_mem.1 (ai_one 22 (dg n)) v (by simpa using h)
theorem load_part {P : Program} (u : World) (b off n : Nat) (f : Nat → Value) (h : ∀ j, j < n → u.cell? ⟨b, off + j, none⟩ = some (f j)) :
    (loadCells ⟨b, off, none⟩ n).run P u = .ok (arr n f) u := by
  have := run_loadCells_list (P := P) u ⟨b, off, none⟩ (arr n f).toList (fun j v hv => by
    have e : (⟨b, off, none⟩ : Addr).add j = ⟨b, off + j, none⟩ := by unfold Addr.add; split <;> simp_all
    rw [e]
    have hj : j < n := by
      have := (List.getElem?_eq_some_iff.1 hv).1
      simpa [arr] using this
    rw [h j hj]
    have : (arr n f)[j]? = some v := by simpa using hv
    rw [arr_get _ _ _ hj] at this
    exact this)
  simpa [arr] using this
theorem ld_cis {l : List Nat} {k n : Nat} (t0 : TypeId) (hk : l[k]? = some n) (w : World) (q : Nat) (h : w.heap[q]? = some (.cells (cis l) t0 (0, 0))) : (Instr.loadAt 36 (.pointer (some ⟨q, 22 * k, none⟩))).run Tryz.prog w = .ok (.agg (ai 22 (dg n))) w := by
  have h1 := load_part (P := Tryz.prog) w q (22 * k) 22 (fun j => .int .i64 (dg n j : Nat)) (fun j hj => by
    rw [cell_of_row _ _ _ _ _ _ h, cis_get l k n j hk hj])
  have h0 : (isAgg 36).run Tryz.prog w = .ok true w := by kernel_rfl
  have h2 : (sizeOf 36).run Tryz.prog w = .ok 22 w := by kernel_rfl
  simp only [Instr.loadAt, Instr.sureAddr, loadVar, Sem.run_bind, Sem.run_pure, Result.andThen_ok, h0, if_true, h2, h1]
  rfl
theorem ldR {a b c d : Nat} (t0 : TypeId) (w : World) (q : Nat) (h : w.heap[q]? = some (.cells (cis [a, b, c, d]) t0 (0, 0))) : (Instr.loadAt 38 (.pointer (some ⟨q, 0, none⟩))).run Tryz.prog w = .ok (.agg (cis [a, b, c, d])) w :=
  ld_row (c := cis [a, b, c, d]) Tryz.underlying38 rfl (by rw [cis_size]; kernel_rfl) w q h
theorem stR {a b c d : Nat} {e : Array Value} (t0 : TypeId) (hc : e.size = 88) (w : World) (q : Nat) (h : w.heap[q]? = some (.cells e t0 (0, 0))) : (Instr.storeAt 38 (.pointer (some ⟨q, 0, none⟩)) (.agg (cis [a, b, c, d]))).run Tryz.prog w = .ok () (w.setRow q (cis [a, b, c, d])) :=
  st_row (n := cis [a, b, c, d]) (by rw [cis_size]; kernel_rfl) (by rw [hc, cis_size]; rfl) (cis_one _) w q h
theorem bxR {a b c d : Nat} (w : World) : (Instr.box 38 (.agg (cis [a, b, c, d]))).run Tryz.prog w = .ok (.pointer (some ⟨w.heap.size, 0, none⟩)) (w.alloc (.cells (cis [a, b, c, d]) 38)) := bx_agg w
theorem cis_zero : cis [0, 0, 0, 0] = ⟨List.replicate 88 (.int .i64 0)⟩ := by
  have h : (ai 22 (dg 0)).toList = List.replicate 22 (.int .i64 0) := by
    have : ai 22 (dg 0) = ⟨List.replicate 22 (.int .i64 0)⟩ := by rw [← ai_zero]; exact ai_congr fun i _ => by simp [dg]
    rw [this]
  simp only [cis, List.flatMap_cons, List.flatMap_nil, h]
  simp
theorem alR (w : World) : (Instr.alloc 38 true (.tuple #[])).run Tryz.prog w = .ok (.pointer (some ⟨w.heap.size, 0, none⟩)) (w.alloc (.cells (cis [0, 0, 0, 0]) 38)) := by
  rw [cis_zero]
  simp [Instr.alloc, go_sem]
  rfl
theorem bdR {a b c d : Nat} (w : World) : (Instr.build 38 #[(0, .agg (ai 22 (dg a))), (1, .agg (ai 22 (dg b))), (2, .agg (ai 22 (dg c))), (3, .agg (ai 22 (dg d)))]).run Tryz.prog w = .ok (.agg (cis [a, b, c, d])) w := by kernel_rfl
theorem bdR2 {b c : Nat} (w : World) : (Instr.build 38 #[(1, .agg (ai 22 (dg b))), (2, .agg (ai 22 (dg c)))]).run Tryz.prog w = .ok (.agg (cis [0, b, c, 0])) w := by kernel_rfl
theorem ix_r {n : Nat} (w : World) : (Instr.index 36 (.agg (ai 22 (dg n))) (.int .i64 (0 : Nat))).run Tryz.prog w = .ok (.int .i64 (dg n 0 : Nat)) w := by
  have : (ai 22 (dg n))[0]? = some (.int .i64 (dg n 0 : Nat)) := arr_get _ _ _ (by omega)
  simp [Instr.index, go_sem, this]
end Go.Proofs.YtacokkedomjgpaaGreatDoor

namespace Go.Proofs.YtacokkedomjgpaaGreatDoor
open Go.RowKit
theorem of_least (b : Nat → Nat) (w : World) : Calls Tryz.prog 71 #[.agg (ai 44 (ofF (nb b 32) 255))] w fun e w' => e = .returned (.agg (ai 22 (dg (ofb b)))) ∧ Below w.heap.size w w' := by
  have := least_r (ofF_lt (nb b 32) 255) (ofF_pv (nb b 32)) (Nat.lt_trans (Nat.mod_lt _ (Nat.pow_pos (by omega))) (by decide +kernel)) w
  rwa [ofb_eq] at this
theorem pp_256 {m : Nat} (h : m < pp) : m < 2 ^ 256 := Nat.lt_trans h (by decide +kernel)
set_option maxHeartbeats 4000000 in
theorem of_r {b : Nat → Nat} (hb : ∀ i, b i < 256) (W0 : World) : Calls Tryz.prog 32 #[.agg (ck b)] W0 fun e w' => e = .returned (.agg (ai 22 (dg (ofb b)))) ∧ Below W0.heap.size W0 w' := by
  refine s_in Tryz.func32 Tryz.ntmps32 rfl [.inl (.agg (ck b))] ?_
  intro β a h
  refine sym_seq ?_
  refine St.rg h [(1, .inr (0, pt 0)), (2, .inr (1, pt 0))] [(ck b, 23), (ai 22 (fun _ => 0), 36)] [] [eN 0, eN 1] ?_ ?_
  · exact oc (k_bx 0 (.agg (ck b)) (bxK (b := b)) rfl rfl) <|
    oc (k_al 1 al22 rfl rfl) <|
    ok_nil
  clear h; intro β a w h
  refine sym_then ?_
  refine sym_seq ?_
  refine St.rg h [(3, .inr (2, pt 0))] [(ai 44 (fun _ => 0), 106)] [] [eN 2] ?_ ?_
  · exact oc (k_al 2 al44 rfl rfl) <|
    ok_nil
  clear h; intro β a w h
  refine sym_then ?_
  refine sym_seq ?_
  refine sym_seq ?_
  refine St.r0 h [(4, .inl (.int .i64 (0 : Nat)))] [] ?_ ?_
  · exact oz (k_mv (.inr rfl) rfl) <|
    ok_nil
  clear h; intro β a w h
  refine sym_then ?_
  refine blk_in ?_
  replace h := St.sm h 2 (ai 44 (ofF (nb b 32) 0)) (c := ai 44 (fun _ => 0)) (t := 106) (ofF_zero _)
  replace h := St.cs h (s' := [.inl (.agg (ck b)), .inr (0, pt 0), .inr (1, pt 0), .inr (2, pt 0), .inl (.int .i64 (0 : Nat)), uu, uu, uu, uu, uu, uu, uu, uu, uu, uu, uu, uu, uu, uu, uu, uu, uu, uu, uu, uu, uu, uu, uu, uu, uu, uu, uu, uu, uu, uu, uu, uu, uu, uu, uu]) (m' := [(ck b, 23), (ai 22 (fun _ => 0), 36), (ai 44 (ofF (nb b 32) 0), 106)]) (by kernel_rfl) (by kernel_rfl)
  refine loop_up 255 (fun i a w => ∃ (x5 x6 x7 x8 x9 x10 x11 x12 x13 x14 x15 x16 x17 x18 x19 x20 x21 x22 x23 x24 x25 x26 x27 x28 x29 x30 x31 x32 x33 x34 x35 x36 x37 : SV) (β : Nat → Nat), St (wd W0) [.inl (.agg (ck b)), .inr (0, pt 0), .inr (1, pt 0), .inr (2, pt 0), .inl (.int .i64 (i : Nat)), x5, x6, x7, x8, x9, x10, x11, x12, x13, x14, x15, x16, x17, x18, x19, x20, x21, x22, x23, x24, x25, x26, x27, x28, x29, x30, x31, x32, x33, x34, x35, x36, x37, uu, uu] [(ck b, 23), (ai 22 (fun _ => 0), 36), (ai 44 (ofF (nb b 32) i), 106)] β a w) ⟨_, _, _, _, _, _, _, _, _, _, _, _, _, _, _, _, _, _, _, _, _, _, _, _, _, _, _, _, _, _, _, _, _, β, h⟩ ?_
  clear h; rintro i a w hki ⟨x5, x6, x7, x8, x9, x10, x11, x12, x13, x14, x15, x16, x17, x18, x19, x20, x21, x22, x23, x24, x25, x26, x27, x28, x29, x30, x31, x32, x33, x34, x35, x36, x37, β, h⟩; replace h := h.o0
  have g1 := hb (i / 8)
  have g2 := ofF_small (nb b 32) i (i / 12)
  have g4 : i % 12 ≤ 11 := by omega
  have g3 := btk_le (nb b 32) i (k := i % 12) g4
  have g5 : i % 8 < 8 := by omega
  have g6 : b (i / 8) / 2 ^ (i % 8) < 256 := Nat.lt_of_le_of_lt (Nat.div_le_self _ _) (hb _)
  rcases Nat.lt_or_ge i 255 with hlti | hgei
  · refine sym_seq ?_
    refine sym_seq ?_
    refine St.r0 h [(7, .inl (.int .i64 (i : Nat))), (8, .inl (.bool true))] [] ?_ ?_
    · exact oz (k_mv (.inl rfl) rfl) <|
      oz (k_bi (.int .i64 (i : Nat)) (.int .i64 (255 : Nat)) (.bool true) (lt_i (m := ((i : Nat) : Int)) (n := ((255 : Nat) : Int)) (decide_eq_true (by omega))) rfl rfl) <|
      ok_nil
    clear h; intro β a w h
    refine sym_then ?_
    refine s_ct h ?_
    refine wp_skip ?_
    refine sym_then ?_
    refine sym_seq ?_
    refine blk_in ?_
    refine sym_seq ?_
    refine St.r0 h [(11, .inl (.int .i64 (i : Nat))), (12, .inl (.int .i64 ((i / 8) : Nat))), (13, .inr (0, pt (i / 8))), (14, .inl (.int .u8 ((b (i / 8)) : Nat))), (15, .inl (.int .i64 (i : Nat))), (16, .inl (.int .i64 ((i % 8) : Nat))), (17, .inl (.int .u64 ((i % 8) : Nat))), (18, .inl (.int .u8 (((b (i / 8)) / 2 ^ (i % 8)) : Nat))), (19, .inl (.int .i64 (((b (i / 8)) / 2 ^ (i % 8)) : Nat))), (20, .inl (.int .i64 ((((b (i / 8)) / 2 ^ (i % 8)) % 2) : Nat))), (5, .inl (.int .i64 ((((b (i / 8)) / 2 ^ (i % 8)) % 2) : Nat)))] [nn, nn, nn, eR 0] ?_ ?_
    · exact oc (k_mv (.inl rfl) rfl) <|
      oc (k_bi (.int .i64 (i : Nat)) (.int .i64 (8 : Nat)) (.int .i64 ((i / 8) : Nat)) (qu_i (m := i) (n := 8) (by decide) (by omega)) rfl rfl) <|
      oc (k_ia 0 0 ((i / 8)) (.int .i64 ((i / 8) : Nat)) (ixK (i := (i / 8)) (by omega)) rfl rfl) <|
      oc (k_ld 0 ((i / 8)) (.int .u8 ((b (i / 8)) : Nat)) (c := ck b) (ld_k (F := b) (i := (i / 8)) (t0 := 23) (by omega)) rfl rfl) <|
      oz (k_mv (.inl rfl) rfl) <|
      oz (k_bi (.int .i64 (i : Nat)) (.int .i64 (8 : Nat)) (.int .i64 ((i % 8) : Nat)) (re_i (m := i) (n := 8) (by decide)) rfl rfl) <|
      oz (k_co (.int .i64 ((i % 8) : Nat)) (.int .u64 ((i % 8) : Nat)) (cv_iu (n := (i % 8)) (by omega)) rfl rfl) <|
      oz (k_bi (.int .u8 ((b (i / 8)) : Nat)) (.int .u64 ((i % 8) : Nat)) (.int .u8 (((b (i / 8)) / 2 ^ (i % 8)) : Nat)) (sr_b (m := (b (i / 8))) (r := (i % 8)) (by omega)) rfl rfl) <|
      oz (k_co (.int .u8 (((b (i / 8)) / 2 ^ (i % 8)) : Nat)) (.int .i64 (((b (i / 8)) / 2 ^ (i % 8)) : Nat)) (cv_bi (n := ((b (i / 8)) / 2 ^ (i % 8))) (by omega)) rfl rfl) <|
      oz (k_bi (.int .i64 (((b (i / 8)) / 2 ^ (i % 8)) : Nat)) (.int .i64 (2 : Nat)) (.int .i64 ((((b (i / 8)) / 2 ^ (i % 8)) % 2) : Nat)) (re_i (m := ((b (i / 8)) / 2 ^ (i % 8))) (n := 2) (by decide)) rfl rfl) <|
      oz (k_mv (.inr rfl) rfl) <|
      ok_nil
    clear h; intro β a w h
    refine sym_then ?_
    refine sym_seq ?_
    refine sym_seq ?_
    refine St.r0 h [(6, .inl (.int .i64 (0 : Nat)))] [] ?_ ?_
    · exact oz (k_mv (.inr rfl) rfl) <|
      ok_nil
    clear h; intro β a w h
    refine sym_then ?_
    refine blk_in ?_
    replace h := St.ss h 5 (.int .i64 ((btk (nb b 32) i 0) : Nat)) (v := .int .i64 ((((b (i / 8)) / 2 ^ (i % 8)) % 2) : Nat)) (ic (bt_byte hb (by omega)))
    replace h := St.cs h (s' := [.inl (.agg (ck b)), .inr (0, pt 0), .inr (1, pt 0), .inr (2, pt 0), .inl (.int .i64 (i : Nat)), .inl (.int .i64 ((btk (nb b 32) i 0) : Nat)), .inl (.int .i64 (0 : Nat)), .inl (.int .i64 (i : Nat)), .inl (.bool true), x9, x10, .inl (.int .i64 (i : Nat)), .inl (.int .i64 ((i / 8) : Nat)), .inr (0, pt (i / 8)), .inl (.int .u8 ((b (i / 8)) : Nat)), .inl (.int .i64 (i : Nat)), .inl (.int .i64 ((i % 8) : Nat)), .inl (.int .u64 ((i % 8) : Nat)), .inl (.int .u8 (((b (i / 8)) / 2 ^ (i % 8)) : Nat)), .inl (.int .i64 (((b (i / 8)) / 2 ^ (i % 8)) : Nat)), .inl (.int .i64 ((((b (i / 8)) / 2 ^ (i % 8)) % 2) : Nat)), x21, x22, x23, x24, x25, x26, x27, x28, x29, x30, x31, x32, x33, x34, x35, x36, x37, uu, uu]) (m' := [(ck b, 23), (ai 22 (fun _ => 0), 36), (ai 44 (ofF (nb b 32) i), 106)]) (by kernel_rfl) (by kernel_rfl)
    refine loop_up (i % 12) (fun k a w => ∃ (x21 x22 x23 x24 x25 x26 x27 x28 : SV) (β : Nat → Nat), St (wd W0) [.inl (.agg (ck b)), .inr (0, pt 0), .inr (1, pt 0), .inr (2, pt 0), .inl (.int .i64 (i : Nat)), .inl (.int .i64 ((btk (nb b 32) i k) : Nat)), .inl (.int .i64 (k : Nat)), .inl (.int .i64 (i : Nat)), .inl (.bool true), x9, x10, .inl (.int .i64 (i : Nat)), .inl (.int .i64 ((i / 8) : Nat)), .inr (0, pt (i / 8)), .inl (.int .u8 ((b (i / 8)) : Nat)), .inl (.int .i64 (i : Nat)), .inl (.int .i64 ((i % 8) : Nat)), .inl (.int .u64 ((i % 8) : Nat)), .inl (.int .u8 (((b (i / 8)) / 2 ^ (i % 8)) : Nat)), .inl (.int .i64 (((b (i / 8)) / 2 ^ (i % 8)) : Nat)), .inl (.int .i64 ((((b (i / 8)) / 2 ^ (i % 8)) % 2) : Nat)), x21, x22, x23, x24, x25, x26, x27, x28, x29, x30, x31, x32, x33, x34, x35, x36, x37, uu, uu] [(ck b, 23), (ai 22 (fun _ => 0), 36), (ai 44 (ofF (nb b 32) i), 106)] β a w) ⟨_, _, _, _, _, _, _, _, β, h⟩ ?_
    clear h; rintro k a w hkk ⟨x21, x22, x23, x24, x25, x26, x27, x28, β, h⟩; replace h := h.o0
    have g7 := btk_le (nb b 32) i (k := k) (by omega)
    rcases Nat.lt_or_ge k (i % 12) with hltk | hgek
    · refine sym_seq ?_
      refine sym_seq ?_
      refine St.r0 h [(21, .inl (.int .i64 (k : Nat))), (22, .inl (.int .i64 (i : Nat))), (23, .inl (.int .i64 ((i % 12) : Nat))), (24, .inl (.bool true))] [] ?_ ?_
      · exact oz (k_mv (.inl rfl) rfl) <|
        oz (k_mv (.inl rfl) rfl) <|
        oz (k_bi (.int .i64 (i : Nat)) (.int .i64 (12 : Nat)) (.int .i64 ((i % 12) : Nat)) (re_i (m := i) (n := 12) (by decide)) rfl rfl) <|
        oz (k_bi (.int .i64 (k : Nat)) (.int .i64 ((i % 12) : Nat)) (.bool true) (lt_i (m := ((k : Nat) : Int)) (n := (((i % 12) : Nat) : Int)) (decide_eq_true (by omega))) rfl rfl) <|
        ok_nil
      clear h; intro β a w h
      refine sym_then ?_
      refine s_ct h ?_
      refine wp_skip ?_
      refine sym_then ?_
      refine sym_seq ?_
      refine blk_in ?_
      refine St.r0 h [(27, .inl (.int .i64 ((btk (nb b 32) i k) : Nat))), (28, .inl (.int .i64 ((2 * (btk (nb b 32) i k)) : Nat))), (5, .inl (.int .i64 ((2 * (btk (nb b 32) i k)) : Nat)))] [eO] ?_ ?_
      · exact oc (k_m0 rfl rfl) <|
        oz (k_bi (.int .i64 (2 : Nat)) (.int .i64 ((btk (nb b 32) i k) : Nat)) (.int .i64 ((2 * (btk (nb b 32) i k)) : Nat)) (mu_i (m := 2) (n := (btk (nb b 32) i k)) (by omega)) rfl rfl) <|
        oz (k_mv (.inr rfl) rfl) <|
        ok_nil
      clear h; intro β a w h
      refine blk_norm ?_
      refine sym_then ?_
      refine St.r0 h [(25, .inl (.int .i64 (k : Nat))), (26, .inl (.int .i64 ((k + 1) : Nat))), (6, .inl (.int .i64 ((k + 1) : Nat)))] [eO] ?_ ?_
      · exact oc (k_m0 rfl rfl) <|
        oz (k_bi (.int .i64 (k : Nat)) (.int .i64 (1 : Nat)) (.int .i64 ((k + 1) : Nat)) (ad_i (m := k) (n := 1) (by omega)) rfl rfl) <|
        oz (k_mv (.inr rfl) rfl) <|
        ok_nil
      clear h; intro β a w h
      replace h := St.ss h 5 (.int .i64 ((btk (nb b 32) i (k + 1)) : Nat)) (v := .int .i64 ((2 * (btk (nb b 32) i k)) : Nat)) (ic (btk_next _ _ _))
      replace h := St.cs h (s' := [.inl (.agg (ck b)), .inr (0, pt 0), .inr (1, pt 0), .inr (2, pt 0), .inl (.int .i64 (i : Nat)), .inl (.int .i64 ((btk (nb b 32) i (k + 1)) : Nat)), .inl (.int .i64 ((k + 1) : Nat)), .inl (.int .i64 (i : Nat)), .inl (.bool true), x9, x10, .inl (.int .i64 (i : Nat)), .inl (.int .i64 ((i / 8) : Nat)), .inr (0, pt (i / 8)), .inl (.int .u8 ((b (i / 8)) : Nat)), .inl (.int .i64 (i : Nat)), .inl (.int .i64 ((i % 8) : Nat)), .inl (.int .u64 ((i % 8) : Nat)), .inl (.int .u8 (((b (i / 8)) / 2 ^ (i % 8)) : Nat)), .inl (.int .i64 (((b (i / 8)) / 2 ^ (i % 8)) : Nat)), .inl (.int .i64 ((((b (i / 8)) / 2 ^ (i % 8)) % 2) : Nat)), .inl (.int .i64 (k : Nat)), .inl (.int .i64 (i : Nat)), .inl (.int .i64 ((i % 12) : Nat)), .inl (.bool true), .inl (.int .i64 (k : Nat)), .inl (.int .i64 ((k + 1) : Nat)), .inl (.int .i64 ((btk (nb b 32) i k) : Nat)), .inl (.int .i64 ((2 * (btk (nb b 32) i k)) : Nat)), x29, x30, x31, x32, x33, x34, x35, x36, x37, uu, uu]) (m' := [(ck b, 23), (ai 22 (fun _ => 0), 36), (ai 44 (ofF (nb b 32) i), 106)]) (by kernel_rfl) (by kernel_rfl)
      exact ⟨hltk, _, _, _, _, _, _, _, _, _, h⟩
    · obtain rfl : (i % 12) = k := by omega
      refine sym_seq ?_
      refine sym_seq ?_
      refine St.r0 h [(21, .inl (.int .i64 ((i % 12) : Nat))), (22, .inl (.int .i64 (i : Nat))), (23, .inl (.int .i64 ((i % 12) : Nat))), (24, .inl (.bool false))] [] ?_ ?_
      · exact oz (k_mv (.inl rfl) rfl) <|
        oz (k_mv (.inl rfl) rfl) <|
        oz (k_bi (.int .i64 (i : Nat)) (.int .i64 (12 : Nat)) (.int .i64 ((i % 12) : Nat)) (re_i (m := i) (n := 12) (by decide)) rfl rfl) <|
        oz (k_bi (.int .i64 ((i % 12) : Nat)) (.int .i64 ((i % 12) : Nat)) (.bool false) (lt_i (m := (((i % 12) : Nat) : Int)) (n := (((i % 12) : Nat) : Int)) (decide_eq_false (by omega))) rfl rfl) <|
        ok_nil
      clear h; intro β a w h
      refine sym_then ?_
      refine s_cf h ?_
      refine wp_exit ?_
      refine then_exit ?_
      refine then_exit ?_
      refine blk_exit ?_
      refine sym_then ?_
      refine St.rg h [(29, .inl (.int .i64 (i : Nat))), (30, .inl (.int .i64 ((i / 12) : Nat))), (31, .inl (.int .i64 (i : Nat))), (32, .inl (.int .i64 ((i / 12) : Nat))), (33, .inr (2, pt (i / 12))), (34, .inl (.int .i64 (((ofF (nb b 32) i) (i / 12)) : Nat))), (35, .inl (.int .i64 ((btk (nb b 32) i (i % 12)) : Nat))), (36, .inl (.int .i64 ((((ofF (nb b 32) i) (i / 12)) + (btk (nb b 32) i (i % 12))) : Nat))), (37, .inr (2, pt (i / 12)))] [] [(2, ai 44 (updN (ofF (nb b 32) i) (i / 12) (((ofF (nb b 32) i) (i / 12)) + (btk (nb b 32) i (i % 12)))))] [nn, nn, nn, nn, nn, eR 2, nn, nn, nn, eS 2] ?_ ?_
      · exact oc (k_mv (.inl rfl) rfl) <|
        oc (k_bi (.int .i64 (i : Nat)) (.int .i64 (12 : Nat)) (.int .i64 ((i / 12) : Nat)) (qu_i (m := i) (n := 12) (by decide) (by omega)) rfl rfl) <|
        oc (k_mv (.inl rfl) rfl) <|
        oc (k_bi (.int .i64 (i : Nat)) (.int .i64 (12 : Nat)) (.int .i64 ((i / 12) : Nat)) (qu_i (m := i) (n := 12) (by decide) (by omega)) rfl rfl) <|
        oc (k_ia 2 0 ((i / 12)) (.int .i64 ((i / 12) : Nat)) (ix44 (i := (i / 12)) (by omega)) rfl rfl) <|
        oc (k_ld 2 ((i / 12)) (.int .i64 (((ofF (nb b 32) i) (i / 12)) : Nat)) (c := ai 44 (ofF (nb b 32) i)) (ld_at (n := 44) (F := (ofF (nb b 32) i)) (i := (i / 12)) (t0 := 106) (by omega)) rfl rfl) <|
        oc (k_mv (.inl rfl) rfl) <|
        oc (k_bi (.int .i64 (((ofF (nb b 32) i) (i / 12)) : Nat)) (.int .i64 ((btk (nb b 32) i (i % 12)) : Nat)) (.int .i64 ((((ofF (nb b 32) i) (i / 12)) + (btk (nb b 32) i (i % 12))) : Nat)) (ad_i (m := ((ofF (nb b 32) i) (i / 12))) (n := (btk (nb b 32) i (i % 12))) (by omega)) rfl rfl) <|
        oc (k_ia 2 0 ((i / 12)) (.int .i64 ((i / 12) : Nat)) (ix44 (i := (i / 12)) (by omega)) rfl rfl) <|
        oc (k_st 2 ((i / 12)) (.int .i64 ((((ofF (nb b 32) i) (i / 12)) + (btk (nb b 32) i (i % 12))) : Nat)) (c := ai 44 (ofF (nb b 32) i)) (n := ai 44 (updN (ofF (nb b 32) i) (i / 12) (((ofF (nb b 32) i) (i / 12)) + (btk (nb b 32) i (i % 12))))) (st_at (n := 44) (F := (ofF (nb b 32) i)) (i := (i / 12)) (v := (((ofF (nb b 32) i) (i / 12)) + (btk (nb b 32) i (i % 12)))) (t0 := 106) (by omega)) rfl rfl) <|
        ok_nil
      clear h; intro β a w h
      refine blk_norm ?_
      refine sym_then ?_
      refine St.r0 h [(9, .inl (.int .i64 (i : Nat))), (10, .inl (.int .i64 ((i + 1) : Nat))), (4, .inl (.int .i64 ((i + 1) : Nat)))] [eO] ?_ ?_
      · exact oc (k_m0 rfl rfl) <|
        oz (k_bi (.int .i64 (i : Nat)) (.int .i64 (1 : Nat)) (.int .i64 ((i + 1) : Nat)) (ad_i (m := i) (n := 1) (by omega)) rfl rfl) <|
        oz (k_mv (.inr rfl) rfl) <|
        ok_nil
      clear h; intro β a w h
      replace h := St.sm h 2 (ai 44 (ofF (nb b 32) (i + 1))) (c := ai 44 (updN (ofF (nb b 32) i) (i / 12) (((ofF (nb b 32) i) (i / 12)) + (btk (nb b 32) i (i % 12))))) (t := 106) (ofF_next _ _)
      replace h := St.cs h (s' := [.inl (.agg (ck b)), .inr (0, pt 0), .inr (1, pt 0), .inr (2, pt 0), .inl (.int .i64 ((i + 1) : Nat)), .inl (.int .i64 ((btk (nb b 32) i (i % 12)) : Nat)), .inl (.int .i64 ((i % 12) : Nat)), .inl (.int .i64 (i : Nat)), .inl (.bool true), .inl (.int .i64 (i : Nat)), .inl (.int .i64 ((i + 1) : Nat)), .inl (.int .i64 (i : Nat)), .inl (.int .i64 ((i / 8) : Nat)), .inr (0, pt (i / 8)), .inl (.int .u8 ((b (i / 8)) : Nat)), .inl (.int .i64 (i : Nat)), .inl (.int .i64 ((i % 8) : Nat)), .inl (.int .u64 ((i % 8) : Nat)), .inl (.int .u8 (((b (i / 8)) / 2 ^ (i % 8)) : Nat)), .inl (.int .i64 (((b (i / 8)) / 2 ^ (i % 8)) : Nat)), .inl (.int .i64 ((((b (i / 8)) / 2 ^ (i % 8)) % 2) : Nat)), .inl (.int .i64 ((i % 12) : Nat)), .inl (.int .i64 (i : Nat)), .inl (.int .i64 ((i % 12) : Nat)), .inl (.bool false), x25, x26, x27, x28, .inl (.int .i64 (i : Nat)), .inl (.int .i64 ((i / 12) : Nat)), .inl (.int .i64 (i : Nat)), .inl (.int .i64 ((i / 12) : Nat)), .inr (2, pt (i / 12)), .inl (.int .i64 (((ofF (nb b 32) i) (i / 12)) : Nat)), .inl (.int .i64 ((btk (nb b 32) i (i % 12)) : Nat)), .inl (.int .i64 ((((ofF (nb b 32) i) (i / 12)) + (btk (nb b 32) i (i % 12))) : Nat)), .inr (2, pt (i / 12)), uu, uu]) (m' := [(ck b, 23), (ai 22 (fun _ => 0), 36), (ai 44 (ofF (nb b 32) (i + 1)), 106)]) (by kernel_rfl) (by kernel_rfl)
      exact ⟨hlti, _, _, _, _, _, _, _, _, _, _, _, _, _, _, _, _, _, _, _, _, _, _, _, _, _, _, _, _, _, _, _, _, _, _, h⟩
  · obtain rfl : i = 255 := by omega
    refine sym_seq ?_
    refine sym_seq ?_
    refine St.r0 h [(7, .inl (.int .i64 (255 : Nat))), (8, .inl (.bool false))] [] ?_ ?_
    · exact oz (k_mv (.inl rfl) rfl) <|
      oz (k_bi (.int .i64 (255 : Nat)) (.int .i64 (255 : Nat)) (.bool false) (lt_i (m := ((255 : Nat) : Int)) (n := ((255 : Nat) : Int)) (decide_eq_false (by omega))) rfl rfl) <|
      ok_nil
    clear h; intro β a w h
    refine sym_then ?_
    refine s_cf h ?_
    refine wp_exit ?_
    refine then_exit ?_
    refine then_exit ?_
    refine blk_exit ?_
    refine sym_then ?_
    refine sym_seq ?_
    refine St.rg h [(38, .inl (.agg (ai 44 (ofF (nb b 32) 255)))), (39, .inl (.agg (ai 22 (dg (ofb b)))))] [] [(1, ai 22 (dg (ofb b)))] [eR 2, nn, eS 1] ?_ ?_
    · exact oc (k_ld 2 0 (.agg (ai 44 (ofF (nb b 32) 255))) (c := ai 44 (ofF (nb b 32) 255)) (ld44 (F := (ofF (nb b 32) 255)) 106) rfl rfl) <|
      oc (k_ca 71 #[.agg (ai 44 (ofF (nb b 32) 255))] (.agg (ai 22 (dg (ofb b)))) (fun w => of_least b w) rfl rfl) <|
      oc (k_st 1 0 (.agg (ai 22 (dg (ofb b)))) (c := ai 22 (fun _ => 0)) (n := ai 22 (dg (ofb b))) (st22 (F := (dg (ofb b))) (c := ai 22 (fun _ => 0)) 36 (ai_size _ _)) rfl rfl) <|
      ok_nil
    clear h; intro β a w h
    refine sym_then ?_
    refine wp_ret ?_
    exact s_rc (b := 1) (t0 := 36) (c := ai 22 (dg (ofb b))) h Tryz.results32 Tryz.underlying36 (fun hb => ⟨rfl, hb⟩) (by rw [ai_size]; kernel_rfl)
set_option maxHeartbeats 4000000 in
theorem key_r {n : Nat} (hn : n < 2 ^ 256) (W0 : World) : Calls Tryz.prog 28 #[.agg (ai 22 (dg n))] W0 fun e w' => e = .returned (.agg (ck (kb n))) ∧ Below W0.heap.size W0 w' := by
  rw [← keF_end hn]
  refine s_in Tryz.func28 Tryz.ntmps28 rfl [.inl (.agg (ai 22 (dg n)))] ?_
  intro β a h
  refine sym_seq ?_
  refine St.rg h [(1, .inr (0, pt 0)), (2, .inr (1, pt 0))] [(ai 22 (dg n), 36), (ck (fun _ => 0), 23)] [] [eN 0, eN 1] ?_ ?_
  · exact oc (k_bx 0 (.agg (ai 22 (dg n))) (bx22 (F := (dg n))) rfl rfl) <|
    oc (k_al 1 alK rfl rfl) <|
    ok_nil
  clear h; intro β a w h
  refine sym_then ?_
  refine sym_seq ?_
  refine St.rg h [(3, .inr (2, pt 0))] [(ck (fun _ => 0), 23)] [] [eN 2] ?_ ?_
  · exact oc (k_al 2 alK rfl rfl) <|
    ok_nil
  clear h; intro β a w h
  refine sym_then ?_
  refine sym_seq ?_
  refine sym_seq ?_
  refine St.r0 h [(4, .inl (.int .i64 (0 : Nat)))] [] ?_ ?_
  · exact oz (k_mv (.inr rfl) rfl) <|
    ok_nil
  clear h; intro β a w h
  refine sym_then ?_
  refine blk_in ?_
  replace h := St.sm h 2 (ck (keF n 0)) (c := ck (fun _ => 0)) (t := 23) (keF_zero n)
  replace h := St.cs h (s' := [.inl (.agg (ai 22 (dg n))), .inr (0, pt 0), .inr (1, pt 0), .inr (2, pt 0), .inl (.int .i64 (0 : Nat)), uu, uu, uu, uu, uu, uu, uu, uu, uu, uu, uu, uu, uu, uu, uu, uu, uu, uu, uu, uu, uu, uu, uu, uu, uu, uu, uu, uu, uu, uu, uu, uu]) (m' := [(ai 22 (dg n), 36), (ck (fun _ => 0), 23), (ck (keF n 0), 23)]) (by kernel_rfl) (by kernel_rfl)
  refine loop_up 256 (fun i a w => ∃ (x5 x6 x7 x8 x9 x10 x11 x12 x13 x14 x15 x16 x17 x18 x19 x20 x21 x22 x23 x24 x25 x26 x27 x28 x29 x30 x31 x32 x33 x34 x35 : SV) (β : Nat → Nat), St (wd W0) [.inl (.agg (ai 22 (dg n))), .inr (0, pt 0), .inr (1, pt 0), .inr (2, pt 0), .inl (.int .i64 (i : Nat)), x5, x6, x7, x8, x9, x10, x11, x12, x13, x14, x15, x16, x17, x18, x19, x20, x21, x22, x23, x24, x25, x26, x27, x28, x29, x30, x31, x32, x33, x34, x35, uu] [(ai 22 (dg n), 36), (ck (fun _ => 0), 23), (ck (keF n i), 23)] β a w) ⟨_, _, _, _, _, _, _, _, _, _, _, _, _, _, _, _, _, _, _, _, _, _, _, _, _, _, _, _, _, _, _, β, h⟩ ?_
  clear h; rintro i a w hki ⟨x5, x6, x7, x8, x9, x10, x11, x12, x13, x14, x15, x16, x17, x18, x19, x20, x21, x22, x23, x24, x25, x26, x27, x28, x29, x30, x31, x32, x33, x34, x35, β, h⟩; replace h := h.o0
  have g1 := bt_fig n i
  have g2 := dg_lt n (i / 12)
  have g3 := keF_lt n i (i / 8)
  rcases Nat.lt_or_ge i 256 with hlti | hgei
  · rcases (show bt n i = 1 ∨ bt n i = 0 by have := bt_lt n i; omega) with hb1 | hb0
    · have g4 := keF_room hb1
      refine sym_seq ?_
      refine sym_seq ?_
      refine St.r0 h [(5, .inl (.int .i64 (i : Nat))), (6, .inl (.bool true))] [] ?_ ?_
      · exact oz (k_mv (.inl rfl) rfl) <|
        oz (k_bi (.int .i64 (i : Nat)) (.int .i64 (256 : Nat)) (.bool true) (lt_i (m := ((i : Nat) : Int)) (n := ((256 : Nat) : Int)) (decide_eq_true (by omega))) rfl rfl) <|
        ok_nil
      clear h; intro β a w h
      refine sym_then ?_
      refine s_ct h ?_
      refine wp_skip ?_
      refine sym_then ?_
      refine sym_seq ?_
      refine blk_in ?_
      refine sym_seq ?_
      refine St.r0 h [(9, .inl (.int .i64 (i : Nat))), (10, .inl (.int .i64 ((i / 12) : Nat))), (11, .inl (.bool true)), (12, .inl (.bool true)), (13, .inl (.int .i64 (i : Nat))), (14, .inl (.int .i64 ((i / 12) : Nat))), (15, .inr (0, pt (i / 12))), (16, .inl (.int .i64 (((dg n) (i / 12)) : Nat))), (17, .inl (.int .i64 (i : Nat))), (18, .inl (.int .i64 ((i % 12) : Nat))), (19, .inl (.int .u64 ((i % 12) : Nat))), (20, .inl (.int .i64 ((((dg n) (i / 12)) / 2 ^ (i % 12)) : Nat))), (21, .inl (.int .i64 (((((dg n) (i / 12)) / 2 ^ (i % 12)) % 2) : Nat))), (22, .inl (.bool true)), (23, .inl (.bool true))] [nn, nn, nn, nn, nn, nn, nn, eR 0] ?_ ?_
      · exact oc (k_mv (.inl rfl) rfl) <|
        oc (k_bi (.int .i64 (i : Nat)) (.int .i64 (12 : Nat)) (.int .i64 ((i / 12) : Nat)) (qu_i (m := i) (n := 12) (by decide) (by omega)) rfl rfl) <|
        oc (k_bi (.int .i64 ((i / 12) : Nat)) (.int .i64 (22 : Nat)) (.bool true) (lt_i (m := (((i / 12) : Nat) : Int)) (n := ((22 : Nat) : Int)) (decide_eq_true (by omega))) rfl rfl) <|
        oc (k_mv (.inl rfl) rfl) <|
        oc (k_mv (.inl rfl) rfl) <|
        oc (k_bi (.int .i64 (i : Nat)) (.int .i64 (12 : Nat)) (.int .i64 ((i / 12) : Nat)) (qu_i (m := i) (n := 12) (by decide) (by omega)) rfl rfl) <|
        oc (k_ia 0 0 ((i / 12)) (.int .i64 ((i / 12) : Nat)) (ix22 (i := (i / 12)) (by omega)) rfl rfl) <|
        oc (k_ld 0 ((i / 12)) (.int .i64 (((dg n) (i / 12)) : Nat)) (c := ai 22 (dg n)) (ld_at (n := 22) (F := (dg n)) (i := (i / 12)) (t0 := 36) (by omega)) rfl rfl) <|
        oz (k_mv (.inl rfl) rfl) <|
        oz (k_bi (.int .i64 (i : Nat)) (.int .i64 (12 : Nat)) (.int .i64 ((i % 12) : Nat)) (re_i (m := i) (n := 12) (by decide)) rfl rfl) <|
        oz (k_co (.int .i64 ((i % 12) : Nat)) (.int .u64 ((i % 12) : Nat)) (cv_iu (n := (i % 12)) (by omega)) rfl rfl) <|
        oz (k_bi (.int .i64 (((dg n) (i / 12)) : Nat)) (.int .u64 ((i % 12) : Nat)) (.int .i64 ((((dg n) (i / 12)) / 2 ^ (i % 12)) : Nat)) (sr_i (m := ((dg n) (i / 12))) (r := (i % 12)) (by omega)) rfl rfl) <|
        oz (k_bi (.int .i64 ((((dg n) (i / 12)) / 2 ^ (i % 12)) : Nat)) (.int .i64 (2 : Nat)) (.int .i64 (((((dg n) (i / 12)) / 2 ^ (i % 12)) % 2) : Nat)) (re_i (m := (((dg n) (i / 12)) / 2 ^ (i % 12))) (n := 2) (by decide)) rfl rfl) <|
        oz (k_bi (.int .i64 (((((dg n) (i / 12)) / 2 ^ (i % 12)) % 2) : Nat)) (.int .i64 (1 : Nat)) (.bool true) (eq_i (m := ((((((dg n) (i / 12)) / 2 ^ (i % 12)) % 2) : Nat) : Int)) (n := ((1 : Nat) : Int)) (decide_eq_true (by omega))) rfl rfl) <|
        oz (k_pt rfl rfl) <|
        ok_nil
      clear h; intro β a w h
      refine sym_then ?_
      refine s_ct h ?_
      refine St.rg h [(24, .inl (.int .i64 (i : Nat))), (25, .inl (.int .i64 ((i / 8) : Nat))), (26, .inl (.int .i64 (i : Nat))), (27, .inl (.int .i64 ((i / 8) : Nat))), (28, .inr (2, pt (i / 8))), (29, .inl (.int .u8 (((keF n i) (i / 8)) : Nat))), (30, .inl (.int .i64 (i : Nat))), (31, .inl (.int .i64 ((i % 8) : Nat))), (32, .inl (.int .u64 ((i % 8) : Nat))), (33, .inl (.int .u8 ((2 ^ (i % 8)) : Nat))), (34, .inl (.int .u8 ((((keF n i) (i / 8)) + (2 ^ (i % 8))) : Nat))), (35, .inr (2, pt (i / 8)))] [] [(2, ck (updN (keF n i) (i / 8) (((keF n i) (i / 8)) + (2 ^ (i % 8)))))] [nn, nn, nn, nn, nn, eR 2, nn, nn, nn, nn, nn, nn, eS 2] ?_ ?_
      · exact oc (k_mv (.inl rfl) rfl) <|
        oc (k_bi (.int .i64 (i : Nat)) (.int .i64 (8 : Nat)) (.int .i64 ((i / 8) : Nat)) (qu_i (m := i) (n := 8) (by decide) (by omega)) rfl rfl) <|
        oc (k_mv (.inl rfl) rfl) <|
        oc (k_bi (.int .i64 (i : Nat)) (.int .i64 (8 : Nat)) (.int .i64 ((i / 8) : Nat)) (qu_i (m := i) (n := 8) (by decide) (by omega)) rfl rfl) <|
        oc (k_ia 2 0 ((i / 8)) (.int .i64 ((i / 8) : Nat)) (ixK (i := (i / 8)) (by omega)) rfl rfl) <|
        oc (k_ld 2 ((i / 8)) (.int .u8 (((keF n i) (i / 8)) : Nat)) (c := ck (keF n i)) (ld_k (F := (keF n i)) (i := (i / 8)) (t0 := 23) (by omega)) rfl rfl) <|
        oc (k_mv (.inl rfl) rfl) <|
        oc (k_bi (.int .i64 (i : Nat)) (.int .i64 (8 : Nat)) (.int .i64 ((i % 8) : Nat)) (re_i (m := i) (n := 8) (by decide)) rfl rfl) <|
        oc (k_co (.int .i64 ((i % 8) : Nat)) (.int .u64 ((i % 8) : Nat)) (cv_iu (n := (i % 8)) (by omega)) rfl rfl) <|
        oc (k_bi (.int .u8 (1 : Nat)) (.int .u64 ((i % 8) : Nat)) (.int .u8 ((2 ^ (i % 8)) : Nat)) (sl_b (r := (i % 8)) (by omega)) rfl rfl) <|
        oc (k_bi (.int .u8 (((keF n i) (i / 8)) : Nat)) (.int .u8 ((2 ^ (i % 8)) : Nat)) (.int .u8 ((((keF n i) (i / 8)) + (2 ^ (i % 8))) : Nat)) (ad_b (m := ((keF n i) (i / 8))) (n := (2 ^ (i % 8))) (by omega)) rfl rfl) <|
        oc (k_ia 2 0 ((i / 8)) (.int .i64 ((i / 8) : Nat)) (ixK (i := (i / 8)) (by omega)) rfl rfl) <|
        oc (k_st 2 ((i / 8)) (.int .u8 ((((keF n i) (i / 8)) + (2 ^ (i % 8))) : Nat)) (c := ck (keF n i)) (n := ck (updN (keF n i) (i / 8) (((keF n i) (i / 8)) + (2 ^ (i % 8))))) (st_k (F := (keF n i)) (i := (i / 8)) (v := (((keF n i) (i / 8)) + (2 ^ (i % 8)))) (t0 := 23) (by omega)) rfl rfl) <|
        ok_nil
      clear h; intro β a w h
      refine blk_norm ?_
      refine sym_then ?_
      refine St.r0 h [(7, .inl (.int .i64 (i : Nat))), (8, .inl (.int .i64 ((i + 1) : Nat))), (4, .inl (.int .i64 ((i + 1) : Nat)))] [eO] ?_ ?_
      · exact oc (k_m0 rfl rfl) <|
        oz (k_bi (.int .i64 (i : Nat)) (.int .i64 (1 : Nat)) (.int .i64 ((i + 1) : Nat)) (ad_i (m := i) (n := 1) (by omega)) rfl rfl) <|
        oz (k_mv (.inr rfl) rfl) <|
        ok_nil
      clear h; intro β a w h
      replace h := St.sm h 2 (ck (keF n (i + 1))) (c := ck (updN (keF n i) (i / 8) (((keF n i) (i / 8)) + (2 ^ (i % 8))))) (t := 23) (keF_one hb1)
      replace h := St.cs h (s' := [.inl (.agg (ai 22 (dg n))), .inr (0, pt 0), .inr (1, pt 0), .inr (2, pt 0), .inl (.int .i64 ((i + 1) : Nat)), .inl (.int .i64 (i : Nat)), .inl (.bool true), .inl (.int .i64 (i : Nat)), .inl (.int .i64 ((i + 1) : Nat)), .inl (.int .i64 (i : Nat)), .inl (.int .i64 ((i / 12) : Nat)), .inl (.bool true), .inl (.bool true), .inl (.int .i64 (i : Nat)), .inl (.int .i64 ((i / 12) : Nat)), .inr (0, pt (i / 12)), .inl (.int .i64 (((dg n) (i / 12)) : Nat)), .inl (.int .i64 (i : Nat)), .inl (.int .i64 ((i % 12) : Nat)), .inl (.int .u64 ((i % 12) : Nat)), .inl (.int .i64 ((((dg n) (i / 12)) / 2 ^ (i % 12)) : Nat)), .inl (.int .i64 (((((dg n) (i / 12)) / 2 ^ (i % 12)) % 2) : Nat)), .inl (.bool true), .inl (.bool true), .inl (.int .i64 (i : Nat)), .inl (.int .i64 ((i / 8) : Nat)), .inl (.int .i64 (i : Nat)), .inl (.int .i64 ((i / 8) : Nat)), .inr (2, pt (i / 8)), .inl (.int .u8 (((keF n i) (i / 8)) : Nat)), .inl (.int .i64 (i : Nat)), .inl (.int .i64 ((i % 8) : Nat)), .inl (.int .u64 ((i % 8) : Nat)), .inl (.int .u8 ((2 ^ (i % 8)) : Nat)), .inl (.int .u8 ((((keF n i) (i / 8)) + (2 ^ (i % 8))) : Nat)), .inr (2, pt (i / 8)), uu]) (m' := [(ai 22 (dg n), 36), (ck (fun _ => 0), 23), (ck (keF n (i + 1)), 23)]) (by kernel_rfl) (by kernel_rfl)
      exact ⟨hlti, _, _, _, _, _, _, _, _, _, _, _, _, _, _, _, _, _, _, _, _, _, _, _, _, _, _, _, _, _, _, _, _, h⟩
    · refine sym_seq ?_
      refine sym_seq ?_
      refine St.r0 h [(5, .inl (.int .i64 (i : Nat))), (6, .inl (.bool true))] [] ?_ ?_
      · exact oz (k_mv (.inl rfl) rfl) <|
        oz (k_bi (.int .i64 (i : Nat)) (.int .i64 (256 : Nat)) (.bool true) (lt_i (m := ((i : Nat) : Int)) (n := ((256 : Nat) : Int)) (decide_eq_true (by omega))) rfl rfl) <|
        ok_nil
      clear h; intro β a w h
      refine sym_then ?_
      refine s_ct h ?_
      refine wp_skip ?_
      refine sym_then ?_
      refine sym_seq ?_
      refine blk_in ?_
      refine sym_seq ?_
      refine St.r0 h [(9, .inl (.int .i64 (i : Nat))), (10, .inl (.int .i64 ((i / 12) : Nat))), (11, .inl (.bool true)), (12, .inl (.bool true)), (13, .inl (.int .i64 (i : Nat))), (14, .inl (.int .i64 ((i / 12) : Nat))), (15, .inr (0, pt (i / 12))), (16, .inl (.int .i64 (((dg n) (i / 12)) : Nat))), (17, .inl (.int .i64 (i : Nat))), (18, .inl (.int .i64 ((i % 12) : Nat))), (19, .inl (.int .u64 ((i % 12) : Nat))), (20, .inl (.int .i64 ((((dg n) (i / 12)) / 2 ^ (i % 12)) : Nat))), (21, .inl (.int .i64 (((((dg n) (i / 12)) / 2 ^ (i % 12)) % 2) : Nat))), (22, .inl (.bool false)), (23, .inl (.bool false))] [nn, nn, nn, nn, nn, nn, nn, eR 0] ?_ ?_
      · exact oc (k_mv (.inl rfl) rfl) <|
        oc (k_bi (.int .i64 (i : Nat)) (.int .i64 (12 : Nat)) (.int .i64 ((i / 12) : Nat)) (qu_i (m := i) (n := 12) (by decide) (by omega)) rfl rfl) <|
        oc (k_bi (.int .i64 ((i / 12) : Nat)) (.int .i64 (22 : Nat)) (.bool true) (lt_i (m := (((i / 12) : Nat) : Int)) (n := ((22 : Nat) : Int)) (decide_eq_true (by omega))) rfl rfl) <|
        oc (k_mv (.inl rfl) rfl) <|
        oc (k_mv (.inl rfl) rfl) <|
        oc (k_bi (.int .i64 (i : Nat)) (.int .i64 (12 : Nat)) (.int .i64 ((i / 12) : Nat)) (qu_i (m := i) (n := 12) (by decide) (by omega)) rfl rfl) <|
        oc (k_ia 0 0 ((i / 12)) (.int .i64 ((i / 12) : Nat)) (ix22 (i := (i / 12)) (by omega)) rfl rfl) <|
        oc (k_ld 0 ((i / 12)) (.int .i64 (((dg n) (i / 12)) : Nat)) (c := ai 22 (dg n)) (ld_at (n := 22) (F := (dg n)) (i := (i / 12)) (t0 := 36) (by omega)) rfl rfl) <|
        oz (k_mv (.inl rfl) rfl) <|
        oz (k_bi (.int .i64 (i : Nat)) (.int .i64 (12 : Nat)) (.int .i64 ((i % 12) : Nat)) (re_i (m := i) (n := 12) (by decide)) rfl rfl) <|
        oz (k_co (.int .i64 ((i % 12) : Nat)) (.int .u64 ((i % 12) : Nat)) (cv_iu (n := (i % 12)) (by omega)) rfl rfl) <|
        oz (k_bi (.int .i64 (((dg n) (i / 12)) : Nat)) (.int .u64 ((i % 12) : Nat)) (.int .i64 ((((dg n) (i / 12)) / 2 ^ (i % 12)) : Nat)) (sr_i (m := ((dg n) (i / 12))) (r := (i % 12)) (by omega)) rfl rfl) <|
        oz (k_bi (.int .i64 ((((dg n) (i / 12)) / 2 ^ (i % 12)) : Nat)) (.int .i64 (2 : Nat)) (.int .i64 (((((dg n) (i / 12)) / 2 ^ (i % 12)) % 2) : Nat)) (re_i (m := (((dg n) (i / 12)) / 2 ^ (i % 12))) (n := 2) (by decide)) rfl rfl) <|
        oz (k_bi (.int .i64 (((((dg n) (i / 12)) / 2 ^ (i % 12)) % 2) : Nat)) (.int .i64 (1 : Nat)) (.bool false) (eq_i (m := ((((((dg n) (i / 12)) / 2 ^ (i % 12)) % 2) : Nat) : Int)) (n := ((1 : Nat) : Int)) (decide_eq_false (by omega))) rfl rfl) <|
        oz (k_pt rfl rfl) <|
        ok_nil
      clear h; intro β a w h
      refine sym_then ?_
      refine s_cf h ?_
      refine wp_skip ?_
      refine blk_norm ?_
      refine sym_then ?_
      refine St.r0 h [(7, .inl (.int .i64 (i : Nat))), (8, .inl (.int .i64 ((i + 1) : Nat))), (4, .inl (.int .i64 ((i + 1) : Nat)))] [eO] ?_ ?_
      · exact oc (k_m0 rfl rfl) <|
        oz (k_bi (.int .i64 (i : Nat)) (.int .i64 (1 : Nat)) (.int .i64 ((i + 1) : Nat)) (ad_i (m := i) (n := 1) (by omega)) rfl rfl) <|
        oz (k_mv (.inr rfl) rfl) <|
        ok_nil
      clear h; intro β a w h
      replace h := St.sm h 2 (ck (keF n (i + 1))) (c := ck (keF n i)) (t := 23) (keF_none hb0)
      replace h := St.cs h (s' := [.inl (.agg (ai 22 (dg n))), .inr (0, pt 0), .inr (1, pt 0), .inr (2, pt 0), .inl (.int .i64 ((i + 1) : Nat)), .inl (.int .i64 (i : Nat)), .inl (.bool true), .inl (.int .i64 (i : Nat)), .inl (.int .i64 ((i + 1) : Nat)), .inl (.int .i64 (i : Nat)), .inl (.int .i64 ((i / 12) : Nat)), .inl (.bool true), .inl (.bool true), .inl (.int .i64 (i : Nat)), .inl (.int .i64 ((i / 12) : Nat)), .inr (0, pt (i / 12)), .inl (.int .i64 (((dg n) (i / 12)) : Nat)), .inl (.int .i64 (i : Nat)), .inl (.int .i64 ((i % 12) : Nat)), .inl (.int .u64 ((i % 12) : Nat)), .inl (.int .i64 ((((dg n) (i / 12)) / 2 ^ (i % 12)) : Nat)), .inl (.int .i64 (((((dg n) (i / 12)) / 2 ^ (i % 12)) % 2) : Nat)), .inl (.bool false), .inl (.bool false), x24, x25, x26, x27, x28, x29, x30, x31, x32, x33, x34, x35, uu]) (m' := [(ai 22 (dg n), 36), (ck (fun _ => 0), 23), (ck (keF n (i + 1)), 23)]) (by kernel_rfl) (by kernel_rfl)
      exact ⟨hlti, _, _, _, _, _, _, _, _, _, _, _, _, _, _, _, _, _, _, _, _, _, _, _, _, _, _, _, _, _, _, _, _, h⟩
  · obtain rfl : i = 256 := by omega
    refine sym_seq ?_
    refine sym_seq ?_
    refine St.r0 h [(5, .inl (.int .i64 (256 : Nat))), (6, .inl (.bool false))] [] ?_ ?_
    · exact oz (k_mv (.inl rfl) rfl) <|
      oz (k_bi (.int .i64 (256 : Nat)) (.int .i64 (256 : Nat)) (.bool false) (lt_i (m := ((256 : Nat) : Int)) (n := ((256 : Nat) : Int)) (decide_eq_false (by omega))) rfl rfl) <|
      ok_nil
    clear h; intro β a w h
    refine sym_then ?_
    refine s_cf h ?_
    refine wp_exit ?_
    refine then_exit ?_
    refine then_exit ?_
    refine blk_exit ?_
    refine sym_then ?_
    refine sym_seq ?_
    refine St.rg h [(36, .inl (.agg (ck (keF n 256))))] [] [(1, ck (keF n 256))] [eR 2, eS 1] ?_ ?_
    · exact oc (k_ld 2 0 (.agg (ck (keF n 256))) (c := ck (keF n 256)) (ldK (b := (keF n 256)) 23) rfl rfl) <|
      oc (k_st 1 0 (.agg (ck (keF n 256))) (c := ck (fun _ => 0)) (n := ck (keF n 256)) (stK (F := (keF n 256)) (c := ck (fun _ => 0)) 23 (ck_size _)) rfl rfl) <|
      ok_nil
    clear h; intro β a w h
    refine sym_then ?_
    refine wp_ret ?_
    exact s_rc (b := 1) (t0 := 23) (c := ck (keF n 256)) h Tryz.results28 Tryz.underlying23 (fun hb => ⟨rfl, hb⟩) (by rw [ck_size]; kernel_rfl)
end Go.Proofs.YtacokkedomjgpaaGreatDoor

namespace Go.Proofs.YtacokkedomjgpaaGreatDoor

def dp (k : Nat) : Int := 254 - (k : Int)
theorem dp_ix {k : Nat} (h : k < 255) : dp k = ((254 - k : Nat) : Int) := by unfold dp; omega
theorem sb_dp {x u : Operand} {k : Nat} (h : k < 255) (w : World) : (do eqGuard .sub 3 x u (.int .i64 (254 - k : Nat)) (.int .i64 (1 : Nat)); binOp .sub 3 (.int .i64 (254 - k : Nat)) (.int .i64 (1 : Nat))).run Tryz.prog w = .ok (.int .i64 (dp (k + 1))) w := by
  have := sb_z (x := x) (u := u) (m := ((254 - k : Nat) : Int)) (n := ((1 : Nat) : Int)) (by omega) (by omega) w
  rwa [show ((254 - k : Nat) : Int) - ((1 : Nat) : Int) = dp (k + 1) by unfold dp; omega] at this
def pw (m e k : Nat) : Nat := m ^ (e / 2 ^ (255 - k)) % pp
theorem pw_lt (m e k : Nat) : pw m e k < pp := mod_pp _
theorem pw_zero {m e : Nat} (he : e < 2 ^ 255) : pw m e 0 = 1 := by
  unfold pw
  rw [Nat.div_eq_of_lt he, Nat.pow_zero]
  exact Nat.mod_eq_of_lt (by decide +kernel)
theorem pw_end (m e : Nat) : pw m e 255 = m ^ e % pp := by unfold pw; simp
theorem bits_next {e k : Nat} (hk : k < 255) : e / 2 ^ (255 - (k + 1)) = e / 2 ^ (255 - k) + e / 2 ^ (255 - k) + bt e (254 - k) := by
  have h1 : 255 - (k + 1) = 254 - k := by omega
  have h2 : 255 - k = 254 - k + 1 := by omega
  unfold bt
  rw [h1, h2, Nat.pow_succ, ← Nat.div_div_eq_div_mul]
  generalize e / 2 ^ (254 - k) = q
  omega
theorem pw_one {m e k : Nat} (hk : k < 255) (hb : bt e (254 - k) = 1) : pw m e k * pw m e k % pp * m % pp = pw m e (k + 1) := by
  unfold pw
  rw [bits_next hk, hb, Nat.pow_add, Nat.pow_add, Nat.pow_one, ← Nat.mul_mod, Nat.mod_mul_mod]
theorem pw_none {m e k : Nat} (hk : k < 255) (hb : bt e (254 - k) = 0) : pw m e k * pw m e k % pp = pw m e (k + 1) := by
  unfold pw
  rw [bits_next hk, hb, Nat.add_zero, Nat.pow_add, ← Nat.mul_mod]

theorem two_lt : 2 < pp := by decide +kernel
end Go.Proofs.YtacokkedomjgpaaGreatDoor

namespace Go.Proofs.YtacokkedomjgpaaGreatDoor
open Go.RowKit
theorem int_least {N : Nat} (hN : N < 9223372036854775808) (w : World) : Calls Tryz.prog 71 #[.agg (ai 44 (inF N 6))] w fun e w' => e = .returned (.agg (ai 22 (dg N))) ∧ Below w.heap.size w w' := by
  have := least_r (inF_lt N 6) (inF_pv hN) (show N < 4096 ^ 44 from Nat.lt_trans hN (by decide +kernel)) w
  have hp : 9223372036854775808 < pp := by decide +kernel
  rwa [Nat.mod_eq_of_lt (show N < pp from Nat.lt_trans hN hp)] at this
set_option maxHeartbeats 4000000 in
theorem int_r {N : Nat} (hN : N < 9223372036854775808) (W0 : World) : Calls Tryz.prog 33 #[.int .i64 (N : Nat)] W0 fun e w' => e = .returned (.agg (ai 22 (dg N))) ∧ Below W0.heap.size W0 w' := by
  refine s_in Tryz.func33 Tryz.ntmps33 rfl [.inl (.int .i64 (N : Nat))] ?_
  intro β a h
  refine sym_seq ?_
  refine St.rg h [(2, .inr (0, pt 0))] [(ai 22 (fun _ => 0), 36)] [] [eN 0] ?_ ?_
  · exact oc (k_al 0 al22 rfl rfl) <|
    ok_nil
  clear h; intro β a w h
  refine sym_then ?_
  refine sym_seq ?_
  refine sym_seq ?_
  refine St.r0 h [(5, .inl (.int .i64 (N : Nat))), (6, .inl (.bool false))] [] ?_ ?_
  · exact oz (k_mv (.inl rfl) rfl) <|
    oz (k_bi (.int .i64 (N : Nat)) (.int .i64 (0 : Nat)) (.bool false) (lt_i (m := ((N : Nat) : Int)) (n := ((0 : Nat) : Int)) (decide_eq_false (by omega))) rfl rfl) <|
    ok_nil
  clear h; intro β a w h
  refine sym_then ?_
  refine s_cf h ?_
  refine wp_skip ?_
  refine sym_then ?_
  refine sym_seq ?_
  refine St.rg h [(3, .inr (1, pt 0))] [(ai 44 (fun _ => 0), 106)] [] [eN 1] ?_ ?_
  · exact oc (k_al 1 al44 rfl rfl) <|
    ok_nil
  clear h; intro β a w h
  refine sym_then ?_
  refine sym_seq ?_
  refine sym_seq ?_
  refine St.r0 h [(4, .inl (.int .i64 (0 : Nat)))] [] ?_ ?_
  · exact oz (k_mv (.inr rfl) rfl) <|
    ok_nil
  clear h; intro β a w h
  refine sym_then ?_
  refine blk_in ?_
  replace h := St.sm h 1 (ai 44 (inF N 0)) (c := ai 44 (fun _ => 0)) (t := 106) (inF_zero N)
  replace h := St.ss h 0 (.int .i64 ((nq N 0) : Nat)) (v := .int .i64 (N : Nat)) (ic (nq_zero N))
  replace h := St.cs h (s' := [.inl (.int .i64 ((nq N 0) : Nat)), uu, .inr (0, pt 0), .inr (1, pt 0), .inl (.int .i64 (0 : Nat)), .inl (.int .i64 (N : Nat)), .inl (.bool false), uu, uu, uu, uu, uu, uu, uu, uu, uu, uu, uu, uu, uu, uu, uu, uu, uu, uu, uu, uu]) (m' := [(ai 22 (fun _ => 0), 36), (ai 44 (inF N 0), 106)]) (by kernel_rfl) (by kernel_rfl)
  refine loop_up 6 (fun k a w => ∃ (x15 x16 x17 x18 x19 x20 x21 x22 x23 x24 : SV) (β : Nat → Nat), St (wd W0) [.inl (.int .i64 ((nq N k) : Nat)), uu, .inr (0, pt 0), .inr (1, pt 0), .inl (.int .i64 (k : Nat)), .inl (.int .i64 (N : Nat)), .inl (.bool false), uu, uu, uu, uu, uu, uu, uu, uu, x15, x16, x17, x18, x19, x20, x21, x22, x23, x24, uu, uu] [(ai 22 (fun _ => 0), 36), (ai 44 (inF N k), 106)] β a w) ⟨_, _, _, _, _, _, _, _, _, _, β, h⟩ ?_
  clear h; rintro k a w hkk ⟨x15, x16, x17, x18, x19, x20, x21, x22, x23, x24, β, h⟩; replace h := h.o0
  have g1 := nq_le N k
  rcases Nat.lt_or_ge k 6 with hltk | hgek
  · refine sym_seq ?_
    refine sym_seq ?_
    refine St.r0 h [(15, .inl (.int .i64 (k : Nat))), (16, .inl (.bool true))] [] ?_ ?_
    · exact oz (k_mv (.inl rfl) rfl) <|
      oz (k_bi (.int .i64 (k : Nat)) (.int .i64 (6 : Nat)) (.bool true) (lt_i (m := ((k : Nat) : Int)) (n := ((6 : Nat) : Int)) (decide_eq_true (by omega))) rfl rfl) <|
      ok_nil
    clear h; intro β a w h
    refine sym_then ?_
    refine s_ct h ?_
    refine wp_skip ?_
    refine sym_then ?_
    refine sym_seq ?_
    refine blk_in ?_
    refine sym_seq ?_
    refine St.rg h [(19, .inl (.int .i64 (k : Nat))), (20, .inl (.int .i64 ((nq N k) : Nat))), (21, .inl (.int .i64 (((nq N k) % 4096) : Nat))), (22, .inr (1, pt k))] [] [(1, ai 44 (updN (inF N k) k ((nq N k) % 4096)))] [nn, nn, nn, nn, eS 1] ?_ ?_
    · exact oc (k_mv (.inl rfl) rfl) <|
      oc (k_mv (.inl rfl) rfl) <|
      oc (k_bi (.int .i64 ((nq N k) : Nat)) (.int .i64 (4096 : Nat)) (.int .i64 (((nq N k) % 4096) : Nat)) (re_i (m := (nq N k)) (n := 4096) (by decide)) rfl rfl) <|
      oc (k_ia 1 0 k (.int .i64 (k : Nat)) (ix44 (i := k) (by omega)) rfl rfl) <|
      oc (k_st 1 k (.int .i64 (((nq N k) % 4096) : Nat)) (c := ai 44 (inF N k)) (n := ai 44 (updN (inF N k) k ((nq N k) % 4096))) (st_at (n := 44) (F := (inF N k)) (i := k) (v := ((nq N k) % 4096)) (t0 := 106) (by omega)) rfl rfl) <|
      ok_nil
    clear h; intro β a w h
    refine sym_then ?_
    refine St.r0 h [(23, .inl (.int .i64 ((nq N k) : Nat))), (24, .inl (.int .i64 (((nq N k) / 4096) : Nat))), (0, .inl (.int .i64 (((nq N k) / 4096) : Nat)))] [eO] ?_ ?_
    · exact oc (k_m0 rfl rfl) <|
      oz (k_bi (.int .i64 ((nq N k) : Nat)) (.int .i64 (4096 : Nat)) (.int .i64 (((nq N k) / 4096) : Nat)) (qu_i (m := (nq N k)) (n := 4096) (by decide) (by omega)) rfl rfl) <|
      oz (k_mv (.inr rfl) rfl) <|
      ok_nil
    clear h; intro β a w h
    refine blk_norm ?_
    refine sym_then ?_
    refine St.r0 h [(17, .inl (.int .i64 (k : Nat))), (18, .inl (.int .i64 ((k + 1) : Nat))), (4, .inl (.int .i64 ((k + 1) : Nat)))] [eO] ?_ ?_
    · exact oc (k_m0 rfl rfl) <|
      oz (k_bi (.int .i64 (k : Nat)) (.int .i64 (1 : Nat)) (.int .i64 ((k + 1) : Nat)) (ad_i (m := k) (n := 1) (by omega)) rfl rfl) <|
      oz (k_mv (.inr rfl) rfl) <|
      ok_nil
    clear h; intro β a w h
    replace h := St.sm h 1 (ai 44 (inF N (k + 1))) (c := ai 44 (updN (inF N k) k ((nq N k) % 4096))) (t := 106) (inF_next N k)
    replace h := St.ss h 0 (.int .i64 ((nq N (k + 1)) : Nat)) (v := .int .i64 (((nq N k) / 4096) : Nat)) (ic (nq_next N k))
    replace h := St.cs h (s' := [.inl (.int .i64 ((nq N (k + 1)) : Nat)), uu, .inr (0, pt 0), .inr (1, pt 0), .inl (.int .i64 ((k + 1) : Nat)), .inl (.int .i64 (N : Nat)), .inl (.bool false), uu, uu, uu, uu, uu, uu, uu, uu, .inl (.int .i64 (k : Nat)), .inl (.bool true), .inl (.int .i64 (k : Nat)), .inl (.int .i64 ((k + 1) : Nat)), .inl (.int .i64 (k : Nat)), .inl (.int .i64 ((nq N k) : Nat)), .inl (.int .i64 (((nq N k) % 4096) : Nat)), .inr (1, pt k), .inl (.int .i64 ((nq N k) : Nat)), .inl (.int .i64 (((nq N k) / 4096) : Nat)), uu, uu]) (m' := [(ai 22 (fun _ => 0), 36), (ai 44 (inF N (k + 1)), 106)]) (by kernel_rfl) (by kernel_rfl)
    exact ⟨hltk, _, _, _, _, _, _, _, _, _, _, _, h⟩
  · obtain rfl : k = 6 := by omega
    refine sym_seq ?_
    refine sym_seq ?_
    refine St.r0 h [(15, .inl (.int .i64 (6 : Nat))), (16, .inl (.bool false))] [] ?_ ?_
    · exact oz (k_mv (.inl rfl) rfl) <|
      oz (k_bi (.int .i64 (6 : Nat)) (.int .i64 (6 : Nat)) (.bool false) (lt_i (m := ((6 : Nat) : Int)) (n := ((6 : Nat) : Int)) (decide_eq_false (by omega))) rfl rfl) <|
      ok_nil
    clear h; intro β a w h
    refine sym_then ?_
    refine s_cf h ?_
    refine wp_exit ?_
    refine then_exit ?_
    refine then_exit ?_
    refine blk_exit ?_
    refine sym_then ?_
    refine sym_seq ?_
    refine St.rg h [(25, .inl (.agg (ai 44 (inF N 6)))), (26, .inl (.agg (ai 22 (dg N))))] [] [(0, ai 22 (dg N))] [eR 1, nn, eS 0] ?_ ?_
    · exact oc (k_ld 1 0 (.agg (ai 44 (inF N 6))) (c := ai 44 (inF N 6)) (ld44 (F := (inF N 6)) 106) rfl rfl) <|
      oc (k_ca 71 #[.agg (ai 44 (inF N 6))] (.agg (ai 22 (dg N))) (fun w => int_least hN w) rfl rfl) <|
      oc (k_st 0 0 (.agg (ai 22 (dg N))) (c := ai 22 (fun _ => 0)) (n := ai 22 (dg N)) (st22 (F := (dg N)) (c := ai 22 (fun _ => 0)) 36 (ai_size _ _)) rfl rfl) <|
      ok_nil
    clear h; intro β a w h
    refine sym_then ?_
    refine wp_ret ?_
    exact s_rc (b := 0) (t0 := 36) (c := ai 22 (dg N)) h Tryz.results33 Tryz.underlying36 (fun hb => ⟨rfl, hb⟩) (by rw [ai_size]; kernel_rfl)
end Go.Proofs.YtacokkedomjgpaaGreatDoor

namespace Go.Proofs.YtacokkedomjgpaaGreatDoor
open Go.RowKit
set_option maxHeartbeats 4000000 in
theorem power_r {m e : Nat} (hm : m < pp) (he : e < 2 ^ 255) (W0 : World) : Calls Tryz.prog 65 #[.agg (ai 22 (dg m)), .agg (ai 22 (dg e))] W0 fun e' w' => e' = .returned (.agg (ai 22 (dg (m ^ e % pp)))) ∧ Below W0.heap.size W0 w' := by
  rw [← pw_end]
  refine s_in Tryz.func65 Tryz.ntmps65 rfl [.inl (.agg (ai 22 (dg m))), .inl (.agg (ai 22 (dg e)))] ?_
  intro β a h
  refine sym_seq ?_
  refine St.rg h [(2, .inr (0, pt 0)), (3, .inr (1, pt 0)), (4, .inr (2, pt 0))] [(ai 22 (dg m), 36), (ai 22 (dg e), 36), (ai 22 (fun _ => 0), 36)] [] [eN 0, eN 1, eN 2] ?_ ?_
  · exact oc (k_bx 0 (.agg (ai 22 (dg m))) (bx22 (F := (dg m))) rfl rfl) <|
    oc (k_bx 1 (.agg (ai 22 (dg e))) (bx22 (F := (dg e))) rfl rfl) <|
    oc (k_al 2 al22 rfl rfl) <|
    ok_nil
  clear h; intro β a w h
  refine sym_then ?_
  refine sym_seq ?_
  refine St.rg h [(7, .inl (.agg (ai 22 (dg 1)))), (5, .inr (3, pt 0))] [(ai 22 (fun _ => 0), 36)] [(3, ai 22 (dg 1))] [nn, eN 3, eS 3] ?_ ?_
  · exact oc (k_ca 33 #[.int .i64 (1 : Nat)] (.agg (ai 22 (dg 1))) (fun w => int_r (N := 1) (by decide) w) rfl rfl) <|
    oc (k_al 3 al22 rfl rfl) <|
    oc (k_st 3 0 (.agg (ai 22 (dg 1))) (c := ai 22 (fun _ => 0)) (n := ai 22 (dg 1)) (st22 (F := (dg 1)) (c := ai 22 (fun _ => 0)) 36 (ai_size _ _)) rfl rfl) <|
    ok_nil
  clear h; intro β a w h
  refine sym_then ?_
  refine sym_seq ?_
  refine sym_seq ?_
  refine St.r0 h [(6, .inl (.int .i64 (254 : Nat)))] [] ?_ ?_
  · exact oz (k_mv (.inr rfl) rfl) <|
    ok_nil
  clear h; intro β a w h
  refine sym_then ?_
  refine blk_in ?_
  replace h := St.sm h 3 (ai 22 (dg (pw m e 0))) (c := ai 22 (dg 1)) (t := 36) (by rw [pw_zero he])
  replace h := St.ss h 6 (.int .i64 (dp 0)) (v := .int .i64 (254 : Nat)) (by rfl)
  replace h := St.cs h (s' := [.inl (.agg (ai 22 (dg m))), .inl (.agg (ai 22 (dg e))), .inr (0, pt 0), .inr (1, pt 0), .inr (2, pt 0), .inr (3, pt 0), .inl (.int .i64 (dp 0)), .inl (.agg (ai 22 (dg 1))), uu, uu, uu, uu, uu, uu, uu, uu, uu, uu, uu, uu, uu, uu, uu, uu, uu, uu, uu, uu, uu]) (m' := [(ai 22 (dg m), 36), (ai 22 (dg e), 36), (ai 22 (fun _ => 0), 36), (ai 22 (dg (pw m e 0)), 36)]) (by kernel_rfl) (by kernel_rfl)
  refine loop_up 255 (fun k a w => ∃ (x8 x9 x10 x11 x12 x13 x14 x15 x16 x17 x18 x19 x20 x21 x22 x23 x24 x25 x26 x27 : SV) (β : Nat → Nat), St (wd W0) [.inl (.agg (ai 22 (dg m))), .inl (.agg (ai 22 (dg e))), .inr (0, pt 0), .inr (1, pt 0), .inr (2, pt 0), .inr (3, pt 0), .inl (.int .i64 (dp k)), .inl (.agg (ai 22 (dg 1))), x8, x9, x10, x11, x12, x13, x14, x15, x16, x17, x18, x19, x20, x21, x22, x23, x24, x25, x26, x27, uu] [(ai 22 (dg m), 36), (ai 22 (dg e), 36), (ai 22 (fun _ => 0), 36), (ai 22 (dg (pw m e k)), 36)] β a w) ⟨_, _, _, _, _, _, _, _, _, _, _, _, _, _, _, _, _, _, _, _, β, h⟩ ?_
  clear h; rintro k a w hkk ⟨x8, x9, x10, x11, x12, x13, x14, x15, x16, x17, x18, x19, x20, x21, x22, x23, x24, x25, x26, x27, β, h⟩; replace h := h.o0
  have g1 := bt_fig e (254 - k)
  have g2 := dg_lt e ((254 - k) / 12)
  rcases Nat.lt_or_ge k 255 with hltk | hgek
  · rcases (show bt e (254 - k) = 1 ∨ bt e (254 - k) = 0 by have := bt_lt e (254 - k); omega) with hb1 | hb0
    · replace h := St.ss h 6 (.int .i64 ((254 - k) : Nat)) (v := .int .i64 (dp k)) (congrArg (Value.int .i64) (dp_ix hltk))
      refine sym_seq ?_
      refine sym_seq ?_
      refine St.r0 h [(8, .inl (.int .i64 ((254 - k) : Nat))), (9, .inl (.bool true))] [] ?_ ?_
      · exact oz (k_mv (.inl rfl) rfl) <|
        oz (k_bi (.int .i64 ((254 - k) : Nat)) (.int .i64 (0 : Nat)) (.bool true) (ge_i (m := (((254 - k) : Nat) : Int)) (n := ((0 : Nat) : Int)) (decide_eq_true (by omega))) rfl rfl) <|
        ok_nil
      clear h; intro β a w h
      refine sym_then ?_
      refine s_ct h ?_
      refine wp_skip ?_
      refine sym_then ?_
      refine sym_seq ?_
      refine blk_in ?_
      refine sym_seq ?_
      refine St.rg h [(12, .inl (.agg (ai 22 (dg (pw m e k))))), (13, .inl (.agg (ai 22 (dg (pw m e k))))), (14, .inl (.agg (ai 22 (dg ((pw m e k) * (pw m e k) % pp)))))] [] [(3, ai 22 (dg ((pw m e k) * (pw m e k) % pp)))] [eR 3, eR 3, nn, eS 3] ?_ ?_
      · exact oc (k_ld 3 0 (.agg (ai 22 (dg (pw m e k)))) (c := ai 22 (dg (pw m e k))) (ld22 (F := (dg (pw m e k))) 36) rfl rfl) <|
        oc (k_ld 3 0 (.agg (ai 22 (dg (pw m e k)))) (c := ai 22 (dg (pw m e k))) (ld22 (F := (dg (pw m e k))) 36) rfl rfl) <|
        oc (k_ca 34 #[.agg (ai 22 (dg (pw m e k))), .agg (ai 22 (dg (pw m e k)))] (.agg (ai 22 (dg ((pw m e k) * (pw m e k) % pp)))) (fun w => times_r (m := (pw m e k)) (n := (pw m e k)) (lt_big (by first | exact mod_pp _ | exact pw_lt _ _ _ | assumption)) (lt_big (by first | exact mod_pp _ | exact pw_lt _ _ _ | assumption)) w) rfl rfl) <|
        oc (k_st 3 0 (.agg (ai 22 (dg ((pw m e k) * (pw m e k) % pp)))) (c := ai 22 (dg (pw m e k))) (n := ai 22 (dg ((pw m e k) * (pw m e k) % pp))) (st22 (F := (dg ((pw m e k) * (pw m e k) % pp))) (c := ai 22 (dg (pw m e k))) 36 (ai_size _ _)) rfl rfl) <|
        ok_nil
      clear h; intro β a w h
      refine sym_then ?_
      refine sym_seq ?_
      refine St.r0 h [(15, .inl (.int .i64 ((254 - k) : Nat))), (16, .inl (.int .i64 (((254 - k) / 12) : Nat))), (17, .inr (1, pt ((254 - k) / 12))), (18, .inl (.int .i64 (((dg e) ((254 - k) / 12)) : Nat))), (19, .inl (.int .i64 ((254 - k) : Nat))), (20, .inl (.int .i64 (((254 - k) % 12) : Nat))), (21, .inl (.int .u64 (((254 - k) % 12) : Nat))), (22, .inl (.int .i64 ((((dg e) ((254 - k) / 12)) / 2 ^ ((254 - k) % 12)) : Nat))), (23, .inl (.int .i64 (((((dg e) ((254 - k) / 12)) / 2 ^ ((254 - k) % 12)) % 2) : Nat))), (24, .inl (.bool true))] [nn, nn, nn, eR 1] ?_ ?_
      · exact oc (k_mv (.inl rfl) rfl) <|
        oc (k_bi (.int .i64 ((254 - k) : Nat)) (.int .i64 (12 : Nat)) (.int .i64 (((254 - k) / 12) : Nat)) (qu_i (m := (254 - k)) (n := 12) (by decide) (by omega)) rfl rfl) <|
        oc (k_ia 1 0 (((254 - k) / 12)) (.int .i64 (((254 - k) / 12) : Nat)) (ix22 (i := ((254 - k) / 12)) (by omega)) rfl rfl) <|
        oc (k_ld 1 (((254 - k) / 12)) (.int .i64 (((dg e) ((254 - k) / 12)) : Nat)) (c := ai 22 (dg e)) (ld_at (n := 22) (F := (dg e)) (i := ((254 - k) / 12)) (t0 := 36) (by omega)) rfl rfl) <|
        oz (k_mv (.inl rfl) rfl) <|
        oz (k_bi (.int .i64 ((254 - k) : Nat)) (.int .i64 (12 : Nat)) (.int .i64 (((254 - k) % 12) : Nat)) (re_i (m := (254 - k)) (n := 12) (by decide)) rfl rfl) <|
        oz (k_co (.int .i64 (((254 - k) % 12) : Nat)) (.int .u64 (((254 - k) % 12) : Nat)) (cv_iu (n := ((254 - k) % 12)) (by omega)) rfl rfl) <|
        oz (k_bi (.int .i64 (((dg e) ((254 - k) / 12)) : Nat)) (.int .u64 (((254 - k) % 12) : Nat)) (.int .i64 ((((dg e) ((254 - k) / 12)) / 2 ^ ((254 - k) % 12)) : Nat)) (sr_i (m := ((dg e) ((254 - k) / 12))) (r := ((254 - k) % 12)) (by omega)) rfl rfl) <|
        oz (k_bi (.int .i64 ((((dg e) ((254 - k) / 12)) / 2 ^ ((254 - k) % 12)) : Nat)) (.int .i64 (2 : Nat)) (.int .i64 (((((dg e) ((254 - k) / 12)) / 2 ^ ((254 - k) % 12)) % 2) : Nat)) (re_i (m := (((dg e) ((254 - k) / 12)) / 2 ^ ((254 - k) % 12))) (n := 2) (by decide)) rfl rfl) <|
        oz (k_bi (.int .i64 (((((dg e) ((254 - k) / 12)) / 2 ^ ((254 - k) % 12)) % 2) : Nat)) (.int .i64 (1 : Nat)) (.bool true) (eq_i (m := ((((((dg e) ((254 - k) / 12)) / 2 ^ ((254 - k) % 12)) % 2) : Nat) : Int)) (n := ((1 : Nat) : Int)) (decide_eq_true (by omega))) rfl rfl) <|
        ok_nil
      clear h; intro β a w h
      refine sym_then ?_
      refine s_ct h ?_
      refine St.rg h [(25, .inl (.agg (ai 22 (dg ((pw m e k) * (pw m e k) % pp))))), (26, .inl (.agg (ai 22 (dg m)))), (27, .inl (.agg (ai 22 (dg (((pw m e k) * (pw m e k) % pp) * m % pp)))))] [] [(3, ai 22 (dg (((pw m e k) * (pw m e k) % pp) * m % pp)))] [eR 3, eR 0, nn, eS 3] ?_ ?_
      · exact oc (k_ld 3 0 (.agg (ai 22 (dg ((pw m e k) * (pw m e k) % pp)))) (c := ai 22 (dg ((pw m e k) * (pw m e k) % pp))) (ld22 (F := (dg ((pw m e k) * (pw m e k) % pp))) 36) rfl rfl) <|
        oc (k_ld 0 0 (.agg (ai 22 (dg m))) (c := ai 22 (dg m)) (ld22 (F := (dg m)) 36) rfl rfl) <|
        oc (k_ca 34 #[.agg (ai 22 (dg ((pw m e k) * (pw m e k) % pp))), .agg (ai 22 (dg m))] (.agg (ai 22 (dg (((pw m e k) * (pw m e k) % pp) * m % pp)))) (fun w => times_r (m := ((pw m e k) * (pw m e k) % pp)) (n := m) (lt_big (by first | exact mod_pp _ | exact pw_lt _ _ _ | assumption)) (lt_big (by first | exact mod_pp _ | exact pw_lt _ _ _ | assumption)) w) rfl rfl) <|
        oc (k_st 3 0 (.agg (ai 22 (dg (((pw m e k) * (pw m e k) % pp) * m % pp)))) (c := ai 22 (dg ((pw m e k) * (pw m e k) % pp))) (n := ai 22 (dg (((pw m e k) * (pw m e k) % pp) * m % pp))) (st22 (F := (dg (((pw m e k) * (pw m e k) % pp) * m % pp))) (c := ai 22 (dg ((pw m e k) * (pw m e k) % pp))) 36 (ai_size _ _)) rfl rfl) <|
        ok_nil
      clear h; intro β a w h
      refine blk_norm ?_
      refine sym_then ?_
      refine St.r0 h [(10, .inl (.int .i64 ((254 - k) : Nat))), (11, .inl (.int .i64 (dp (k + 1)))), (6, .inl (.int .i64 (dp (k + 1))))] [eO] ?_ ?_
      · exact oc (k_m0 rfl rfl) <|
        oz (k_bi (.int .i64 ((254 - k) : Nat)) (.int .i64 (1 : Nat)) (.int .i64 (dp (k + 1))) (sb_dp (k := k) (by omega)) rfl rfl) <|
        oz (k_mv (.inr rfl) rfl) <|
        ok_nil
      clear h; intro β a w h
      replace h := St.sm h 3 (ai 22 (dg (pw m e (k + 1)))) (c := ai 22 (dg (((pw m e k) * (pw m e k) % pp) * m % pp))) (t := 36) (by rw [pw_one hltk hb1])
      replace h := St.cs h (s' := [.inl (.agg (ai 22 (dg m))), .inl (.agg (ai 22 (dg e))), .inr (0, pt 0), .inr (1, pt 0), .inr (2, pt 0), .inr (3, pt 0), .inl (.int .i64 (dp (k + 1))), .inl (.agg (ai 22 (dg 1))), .inl (.int .i64 ((254 - k) : Nat)), .inl (.bool true), .inl (.int .i64 ((254 - k) : Nat)), .inl (.int .i64 (dp (k + 1))), .inl (.agg (ai 22 (dg (pw m e k)))), .inl (.agg (ai 22 (dg (pw m e k)))), .inl (.agg (ai 22 (dg ((pw m e k) * (pw m e k) % pp)))), .inl (.int .i64 ((254 - k) : Nat)), .inl (.int .i64 (((254 - k) / 12) : Nat)), .inr (1, pt ((254 - k) / 12)), .inl (.int .i64 (((dg e) ((254 - k) / 12)) : Nat)), .inl (.int .i64 ((254 - k) : Nat)), .inl (.int .i64 (((254 - k) % 12) : Nat)), .inl (.int .u64 (((254 - k) % 12) : Nat)), .inl (.int .i64 ((((dg e) ((254 - k) / 12)) / 2 ^ ((254 - k) % 12)) : Nat)), .inl (.int .i64 (((((dg e) ((254 - k) / 12)) / 2 ^ ((254 - k) % 12)) % 2) : Nat)), .inl (.bool true), .inl (.agg (ai 22 (dg ((pw m e k) * (pw m e k) % pp)))), .inl (.agg (ai 22 (dg m))), .inl (.agg (ai 22 (dg (((pw m e k) * (pw m e k) % pp) * m % pp)))), uu]) (m' := [(ai 22 (dg m), 36), (ai 22 (dg e), 36), (ai 22 (fun _ => 0), 36), (ai 22 (dg (pw m e (k + 1))), 36)]) (by kernel_rfl) (by kernel_rfl)
      exact ⟨hltk, _, _, _, _, _, _, _, _, _, _, _, _, _, _, _, _, _, _, _, _, _, h⟩
    · replace h := St.ss h 6 (.int .i64 ((254 - k) : Nat)) (v := .int .i64 (dp k)) (congrArg (Value.int .i64) (dp_ix hltk))
      refine sym_seq ?_
      refine sym_seq ?_
      refine St.r0 h [(8, .inl (.int .i64 ((254 - k) : Nat))), (9, .inl (.bool true))] [] ?_ ?_
      · exact oz (k_mv (.inl rfl) rfl) <|
        oz (k_bi (.int .i64 ((254 - k) : Nat)) (.int .i64 (0 : Nat)) (.bool true) (ge_i (m := (((254 - k) : Nat) : Int)) (n := ((0 : Nat) : Int)) (decide_eq_true (by omega))) rfl rfl) <|
        ok_nil
      clear h; intro β a w h
      refine sym_then ?_
      refine s_ct h ?_
      refine wp_skip ?_
      refine sym_then ?_
      refine sym_seq ?_
      refine blk_in ?_
      refine sym_seq ?_
      refine St.rg h [(12, .inl (.agg (ai 22 (dg (pw m e k))))), (13, .inl (.agg (ai 22 (dg (pw m e k))))), (14, .inl (.agg (ai 22 (dg ((pw m e k) * (pw m e k) % pp)))))] [] [(3, ai 22 (dg ((pw m e k) * (pw m e k) % pp)))] [eR 3, eR 3, nn, eS 3] ?_ ?_
      · exact oc (k_ld 3 0 (.agg (ai 22 (dg (pw m e k)))) (c := ai 22 (dg (pw m e k))) (ld22 (F := (dg (pw m e k))) 36) rfl rfl) <|
        oc (k_ld 3 0 (.agg (ai 22 (dg (pw m e k)))) (c := ai 22 (dg (pw m e k))) (ld22 (F := (dg (pw m e k))) 36) rfl rfl) <|
        oc (k_ca 34 #[.agg (ai 22 (dg (pw m e k))), .agg (ai 22 (dg (pw m e k)))] (.agg (ai 22 (dg ((pw m e k) * (pw m e k) % pp)))) (fun w => times_r (m := (pw m e k)) (n := (pw m e k)) (lt_big (by first | exact mod_pp _ | exact pw_lt _ _ _ | assumption)) (lt_big (by first | exact mod_pp _ | exact pw_lt _ _ _ | assumption)) w) rfl rfl) <|
        oc (k_st 3 0 (.agg (ai 22 (dg ((pw m e k) * (pw m e k) % pp)))) (c := ai 22 (dg (pw m e k))) (n := ai 22 (dg ((pw m e k) * (pw m e k) % pp))) (st22 (F := (dg ((pw m e k) * (pw m e k) % pp))) (c := ai 22 (dg (pw m e k))) 36 (ai_size _ _)) rfl rfl) <|
        ok_nil
      clear h; intro β a w h
      refine sym_then ?_
      refine sym_seq ?_
      refine St.r0 h [(15, .inl (.int .i64 ((254 - k) : Nat))), (16, .inl (.int .i64 (((254 - k) / 12) : Nat))), (17, .inr (1, pt ((254 - k) / 12))), (18, .inl (.int .i64 (((dg e) ((254 - k) / 12)) : Nat))), (19, .inl (.int .i64 ((254 - k) : Nat))), (20, .inl (.int .i64 (((254 - k) % 12) : Nat))), (21, .inl (.int .u64 (((254 - k) % 12) : Nat))), (22, .inl (.int .i64 ((((dg e) ((254 - k) / 12)) / 2 ^ ((254 - k) % 12)) : Nat))), (23, .inl (.int .i64 (((((dg e) ((254 - k) / 12)) / 2 ^ ((254 - k) % 12)) % 2) : Nat))), (24, .inl (.bool false))] [nn, nn, nn, eR 1] ?_ ?_
      · exact oc (k_mv (.inl rfl) rfl) <|
        oc (k_bi (.int .i64 ((254 - k) : Nat)) (.int .i64 (12 : Nat)) (.int .i64 (((254 - k) / 12) : Nat)) (qu_i (m := (254 - k)) (n := 12) (by decide) (by omega)) rfl rfl) <|
        oc (k_ia 1 0 (((254 - k) / 12)) (.int .i64 (((254 - k) / 12) : Nat)) (ix22 (i := ((254 - k) / 12)) (by omega)) rfl rfl) <|
        oc (k_ld 1 (((254 - k) / 12)) (.int .i64 (((dg e) ((254 - k) / 12)) : Nat)) (c := ai 22 (dg e)) (ld_at (n := 22) (F := (dg e)) (i := ((254 - k) / 12)) (t0 := 36) (by omega)) rfl rfl) <|
        oz (k_mv (.inl rfl) rfl) <|
        oz (k_bi (.int .i64 ((254 - k) : Nat)) (.int .i64 (12 : Nat)) (.int .i64 (((254 - k) % 12) : Nat)) (re_i (m := (254 - k)) (n := 12) (by decide)) rfl rfl) <|
        oz (k_co (.int .i64 (((254 - k) % 12) : Nat)) (.int .u64 (((254 - k) % 12) : Nat)) (cv_iu (n := ((254 - k) % 12)) (by omega)) rfl rfl) <|
        oz (k_bi (.int .i64 (((dg e) ((254 - k) / 12)) : Nat)) (.int .u64 (((254 - k) % 12) : Nat)) (.int .i64 ((((dg e) ((254 - k) / 12)) / 2 ^ ((254 - k) % 12)) : Nat)) (sr_i (m := ((dg e) ((254 - k) / 12))) (r := ((254 - k) % 12)) (by omega)) rfl rfl) <|
        oz (k_bi (.int .i64 ((((dg e) ((254 - k) / 12)) / 2 ^ ((254 - k) % 12)) : Nat)) (.int .i64 (2 : Nat)) (.int .i64 (((((dg e) ((254 - k) / 12)) / 2 ^ ((254 - k) % 12)) % 2) : Nat)) (re_i (m := (((dg e) ((254 - k) / 12)) / 2 ^ ((254 - k) % 12))) (n := 2) (by decide)) rfl rfl) <|
        oz (k_bi (.int .i64 (((((dg e) ((254 - k) / 12)) / 2 ^ ((254 - k) % 12)) % 2) : Nat)) (.int .i64 (1 : Nat)) (.bool false) (eq_i (m := ((((((dg e) ((254 - k) / 12)) / 2 ^ ((254 - k) % 12)) % 2) : Nat) : Int)) (n := ((1 : Nat) : Int)) (decide_eq_false (by omega))) rfl rfl) <|
        ok_nil
      clear h; intro β a w h
      refine sym_then ?_
      refine s_cf h ?_
      refine wp_skip ?_
      refine blk_norm ?_
      refine sym_then ?_
      refine St.r0 h [(10, .inl (.int .i64 ((254 - k) : Nat))), (11, .inl (.int .i64 (dp (k + 1)))), (6, .inl (.int .i64 (dp (k + 1))))] [eO] ?_ ?_
      · exact oc (k_m0 rfl rfl) <|
        oz (k_bi (.int .i64 ((254 - k) : Nat)) (.int .i64 (1 : Nat)) (.int .i64 (dp (k + 1))) (sb_dp (k := k) (by omega)) rfl rfl) <|
        oz (k_mv (.inr rfl) rfl) <|
        ok_nil
      clear h; intro β a w h
      replace h := St.sm h 3 (ai 22 (dg (pw m e (k + 1)))) (c := ai 22 (dg ((pw m e k) * (pw m e k) % pp))) (t := 36) (by rw [pw_none hltk hb0])
      replace h := St.cs h (s' := [.inl (.agg (ai 22 (dg m))), .inl (.agg (ai 22 (dg e))), .inr (0, pt 0), .inr (1, pt 0), .inr (2, pt 0), .inr (3, pt 0), .inl (.int .i64 (dp (k + 1))), .inl (.agg (ai 22 (dg 1))), .inl (.int .i64 ((254 - k) : Nat)), .inl (.bool true), .inl (.int .i64 ((254 - k) : Nat)), .inl (.int .i64 (dp (k + 1))), .inl (.agg (ai 22 (dg (pw m e k)))), .inl (.agg (ai 22 (dg (pw m e k)))), .inl (.agg (ai 22 (dg ((pw m e k) * (pw m e k) % pp)))), .inl (.int .i64 ((254 - k) : Nat)), .inl (.int .i64 (((254 - k) / 12) : Nat)), .inr (1, pt ((254 - k) / 12)), .inl (.int .i64 (((dg e) ((254 - k) / 12)) : Nat)), .inl (.int .i64 ((254 - k) : Nat)), .inl (.int .i64 (((254 - k) % 12) : Nat)), .inl (.int .u64 (((254 - k) % 12) : Nat)), .inl (.int .i64 ((((dg e) ((254 - k) / 12)) / 2 ^ ((254 - k) % 12)) : Nat)), .inl (.int .i64 (((((dg e) ((254 - k) / 12)) / 2 ^ ((254 - k) % 12)) % 2) : Nat)), .inl (.bool false), x25, x26, x27, uu]) (m' := [(ai 22 (dg m), 36), (ai 22 (dg e), 36), (ai 22 (fun _ => 0), 36), (ai 22 (dg (pw m e (k + 1))), 36)]) (by kernel_rfl) (by kernel_rfl)
      exact ⟨hltk, _, _, _, _, _, _, _, _, _, _, _, _, _, _, _, _, _, _, _, _, _, h⟩
  · obtain rfl : k = 255 := by omega
    refine sym_seq ?_
    refine sym_seq ?_
    refine St.r0 h [(8, .inl (.int .i64 (dp 255))), (9, .inl (.bool false))] [] ?_ ?_
    · exact oz (k_mv (.inl rfl) rfl) <|
      oz (k_bi (.int .i64 (dp 255)) (.int .i64 (0 : Nat)) (.bool false) (ge_i (m := dp 255) (n := ((0 : Nat) : Int)) (decide_eq_false (by unfold dp; omega))) rfl rfl) <|
      ok_nil
    clear h; intro β a w h
    refine sym_then ?_
    refine s_cf h ?_
    refine wp_exit ?_
    refine then_exit ?_
    refine then_exit ?_
    refine blk_exit ?_
    refine sym_then ?_
    refine sym_seq ?_
    refine St.rg h [(28, .inl (.agg (ai 22 (dg (pw m e 255)))))] [] [(2, ai 22 (dg (pw m e 255)))] [eR 3, eS 2] ?_ ?_
    · exact oc (k_ld 3 0 (.agg (ai 22 (dg (pw m e 255)))) (c := ai 22 (dg (pw m e 255))) (ld22 (F := (dg (pw m e 255))) 36) rfl rfl) <|
      oc (k_st 2 0 (.agg (ai 22 (dg (pw m e 255)))) (c := ai 22 (fun _ => 0)) (n := ai 22 (dg (pw m e 255))) (st22 (F := (dg (pw m e 255))) (c := ai 22 (fun _ => 0)) 36 (ai_size _ _)) rfl rfl) <|
      ok_nil
    clear h; intro β a w h
    refine sym_then ?_
    refine wp_ret ?_
    exact s_rc (b := 2) (t0 := 36) (c := ai 22 (dg (pw m e 255))) h Tryz.results65 Tryz.underlying36 (fun hb => ⟨rfl, hb⟩) (by rw [ai_size]; kernel_rfl)
set_option maxHeartbeats 4000000 in
theorem over_q {m n k r : Nat} (hm : m < pp) (hr : r < pp) (c1 : ∀ w, Calls Tryz.prog 66 #[.agg (ai 22 (dg pp)), .agg (ai 22 (dg 2))] w fun e w' => e = .returned (.agg (ai 22 (dg k))) ∧ Below w.heap.size w w') (c2 : ∀ w, Calls Tryz.prog 65 #[.agg (ai 22 (dg n)), .agg (ai 22 (dg k))] w fun e w' => e = .returned (.agg (ai 22 (dg r))) ∧ Below w.heap.size w w') (W0 : World) :
    Calls Tryz.prog 29 #[.agg (ai 22 (dg m)), .agg (ai 22 (dg n))] W0 fun e w' => e = .returned (.agg (ai 22 (dg (m * r % pp)))) ∧ Below W0.heap.size W0 w' := by
  refine s_in Tryz.func29 Tryz.ntmps29 rfl [.inl (.agg (ai 22 (dg m))), .inl (.agg (ai 22 (dg n)))] ?_
  intro β a h
  refine sym_seq ?_
  refine St.rg h [(2, .inr (0, pt 0)), (3, .inr (1, pt 0)), (4, .inr (2, pt 0))] [(ai 22 (dg m), 36), (ai 22 (dg n), 36), (ai 22 (fun _ => 0), 36)] [] [eN 0, eN 1, eN 2] ?_ ?_
  · exact oc (k_bx 0 (.agg (ai 22 (dg m))) (bx22 (F := (dg m))) rfl rfl) <|
    oc (k_bx 1 (.agg (ai 22 (dg n))) (bx22 (F := (dg n))) rfl rfl) <|
    oc (k_al 2 al22 rfl rfl) <|
    ok_nil
  clear h; intro β a w h
  refine sym_then ?_
  refine sym_seq ?_
  refine St.rg h [(5, .inl (.agg (ai 22 (dg m)))), (6, .inl (.agg (ai 22 (dg n)))), (7, .inl (.agg (ai 22 (dg pp)))), (8, .inl (.agg (ai 22 (dg 2)))), (9, .inl (.agg (ai 22 (dg k)))), (10, .inl (.agg (ai 22 (dg r)))), (11, .inl (.agg (ai 22 (dg (m * r % pp)))))] [] [(2, ai 22 (dg (m * r % pp)))] [eR 0, eR 1, nn, nn, nn, nn, nn, eS 2] ?_ ?_
  · exact oc (k_ld 0 0 (.agg (ai 22 (dg m))) (c := ai 22 (dg m)) (ld22 (F := (dg m)) 36) rfl rfl) <|
    oc (k_ld 1 0 (.agg (ai 22 (dg n))) (c := ai 22 (dg n)) (ld22 (F := (dg n)) 36) rfl rfl) <|
    oc (k_ca 67 #[] (.agg (ai 22 (dg pp))) prime_r rfl rfl) <|
    oc (k_ca 33 #[.int .i64 (2 : Nat)] (.agg (ai 22 (dg 2))) (fun w => int_r (N := 2) (by decide) w) rfl rfl) <|
    oc (k_ca 66 #[.agg (ai 22 (dg pp)), .agg (ai 22 (dg 2))] (.agg (ai 22 (dg k))) c1 rfl rfl) <|
    oc (k_ca 65 #[.agg (ai 22 (dg n)), .agg (ai 22 (dg k))] (.agg (ai 22 (dg r))) c2 rfl rfl) <|
    oc (k_ca 34 #[.agg (ai 22 (dg m)), .agg (ai 22 (dg r))] (.agg (ai 22 (dg (m * r % pp)))) (fun w => times_r (lt_big hm) (lt_big hr) w) rfl rfl) <|
    oc (k_st 2 0 (.agg (ai 22 (dg (m * r % pp)))) (c := ai 22 (fun _ => 0)) (n := ai 22 (dg (m * r % pp))) (st22 (F := (dg (m * r % pp))) (c := ai 22 (fun _ => 0)) 36 (ai_size _ _)) rfl rfl) <|
    ok_nil
  clear h; intro β a w h
  refine sym_then ?_
  refine wp_ret ?_
  exact s_rc (b := 2) (t0 := 36) (c := ai 22 (dg (m * r % pp))) h Tryz.results29 Tryz.underlying36 (fun hb => ⟨rfl, hb⟩) (by rw [ai_size]; kernel_rfl)
theorem over_r {m n k : Nat} (hm : m < pp) (hn : n < pp) (hk : k = 57896044618658097711785492504343953926634992332820282019728792003956564819947) (W0 : World) :
    Calls Tryz.prog 29 #[.agg (ai 22 (dg m)), .agg (ai 22 (dg n))] W0 fun e w' => e = .returned (.agg (ai 22 (dg (m * (n ^ k % pp) % pp)))) ∧ Below W0.heap.size W0 w' := by
  have e : pp - 2 = k := by rw [hk]; decide +kernel
  have h255 : k < 2 ^ 255 := by rw [hk]; decide +kernel
  exact over_q hm (mod_pp _) (fun w => by have := less_r (m := pp) (n := 2) (Nat.le_of_lt two_lt) w; rwa [e] at this) (power_r hn h255) W0
end Go.Proofs.YtacokkedomjgpaaGreatDoor

namespace Go.Proofs.YtacokkedomjgpaaGreatDoor
end Go.Proofs.YtacokkedomjgpaaGreatDoor

namespace Go.Proofs.YtacokkedomjgpaaGreatDoor
open Go.RowKit

theorem plus_rm {m n : Nat} (hm : m < pp) (hn : n < pp) (w : World) : Calls Tryz.prog 69 #[.agg (ai 22 (dg m)), .agg (ai 22 (dg n))] w fun e w' => e = .returned (.agg (ai 22 (dg (ad m n)))) ∧ Below w.heap.size w w' := plus_r (lt_big hm) (lt_big hn) w
theorem minus_rm {m n : Nat} (hm : m < pp) (hn : n < pp) (w : World) : Calls Tryz.prog 70 #[.agg (ai 22 (dg m)), .agg (ai 22 (dg n))] w fun e w' => e = .returned (.agg (ai 22 (dg (sb m n)))) ∧ Below w.heap.size w w' := minus_r (lt_big hm) (Nat.le_of_lt hn) w
theorem times_rm {m n : Nat} (hm : m < pp) (hn : n < pp) (w : World) : Calls Tryz.prog 34 #[.agg (ai 22 (dg m)), .agg (ai 22 (dg n))] w fun e w' => e = .returned (.agg (ai 22 (dg (mu m n)))) ∧ Below w.heap.size w w' := times_r (lt_big hm) (lt_big hn) w
theorem over_rm {m n : Nat} (hm : m < pp) (hn : n < pp) (w : World) : Calls Tryz.prog 29 #[.agg (ai 22 (dg m)), .agg (ai 22 (dg n))] w fun e w' => e = .returned (.agg (ai 22 (dg (mu m (inv n))))) ∧ Below w.heap.size w w' := by
  obtain ⟨k, hk⟩ : ∃ k : Nat, k = 57896044618658097711785492504343953926634992332820282019728792003956564819947 := ⟨_, rfl⟩
  have := over_r hm hn hk w
  rwa [inv_pow_eq hk] at this
theorem key_rm {n : Nat} (hn : n < pp) (w : World) : Calls Tryz.prog 28 #[.agg (ai 22 (dg n))] w fun e w' => e = .returned (.agg (ck (kb n))) ∧ Below w.heap.size w w' := key_r (pp_256 hn) w
theorem kb_top {n : Nat} (hn : n < pp) : kb n 31 < 128 := by rw [← byt_kb n 31 (by omega)]; exact byt_top hn
theorem dg_par4 (n : Nat) : dg n 0 % 2 = n % 2 := by unfold dg; rw [Nat.pow_zero, Nat.div_one]; omega
end Go.Proofs.YtacokkedomjgpaaGreatDoor

namespace Go.Proofs.YtacokkedomjgpaaGreatDoor
open Go.RowKit

set_option maxHeartbeats 4000000 in
theorem slope_r  (W0 : World) : Calls Tryz.prog 68 #[] W0 fun e w' => e = .returned (.agg (ai 22 (dg dN))) ∧ Below W0.heap.size W0 w' := by
  refine s_in Tryz.func68 Tryz.ntmps68 rfl [] ?_
  intro β a h
  refine sym_seq ?_
  refine St.rg h [(0, .inr (0, pt 0))] [(ai 22 (fun _ => 0), 36)] [] [eN 0] ?_ ?_
  · exact oc (k_al 0 al22 rfl rfl) <|
    ok_nil
  clear h; intro β a w h
  refine sym_then ?_
  refine sym_seq ?_
  refine St.rg h [(1, .inl (.agg (ck (kl [163, 120, 89, 19, 202, 77, 235, 117, 171, 216, 65, 65, 77, 10, 112, 0, 152, 232, 121, 119, 121, 64, 199, 140, 115, 254, 111, 43, 238, 108, 3, 82])))), (2, .inl (.agg (ai 22 (dg dN))))] [] [(0, ai 22 (dg dN))] [nn, nn, eS 0] ?_ ?_
  · exact oc (k_bu #[(0, .int .u8 (163 : Nat)), (1, .int .u8 (120 : Nat)), (2, .int .u8 (89 : Nat)), (3, .int .u8 (19 : Nat)), (4, .int .u8 (202 : Nat)), (5, .int .u8 (77 : Nat)), (6, .int .u8 (235 : Nat)), (7, .int .u8 (117 : Nat)), (8, .int .u8 (171 : Nat)), (9, .int .u8 (216 : Nat)), (10, .int .u8 (65 : Nat)), (11, .int .u8 (65 : Nat)), (12, .int .u8 (77 : Nat)), (13, .int .u8 (10 : Nat)), (14, .int .u8 (112 : Nat)), (15, .int .u8 (0 : Nat)), (16, .int .u8 (152 : Nat)), (17, .int .u8 (232 : Nat)), (18, .int .u8 (121 : Nat)), (19, .int .u8 (119 : Nat)), (20, .int .u8 (121 : Nat)), (21, .int .u8 (64 : Nat)), (22, .int .u8 (199 : Nat)), (23, .int .u8 (140 : Nat)), (24, .int .u8 (115 : Nat)), (25, .int .u8 (254 : Nat)), (26, .int .u8 (111 : Nat)), (27, .int .u8 (43 : Nat)), (28, .int .u8 (238 : Nat)), (29, .int .u8 (108 : Nat)), (30, .int .u8 (3 : Nat)), (31, .int .u8 (82 : Nat))] (.agg (ck (kl [163, 120, 89, 19, 202, 77, 235, 117, 171, 216, 65, 65, 77, 10, 112, 0, 152, 232, 121, 119, 121, 64, 199, 140, 115, 254, 111, 43, 238, 108, 3, 82]))) (fun w => by kernel_rfl) rfl rfl) <|
    oc (k_ca 32 #[.agg (ck (kl [163, 120, 89, 19, 202, 77, 235, 117, 171, 216, 65, 65, 77, 10, 112, 0, 152, 232, 121, 119, 121, 64, 199, 140, 115, 254, 111, 43, 238, 108, 3, 82]))] (.agg (ai 22 (dg dN))) (fun w => by have := of_r (b := (kl [163, 120, 89, 19, 202, 77, 235, 117, 171, 216, 65, 65, 77, 10, 112, 0, 152, 232, 121, 119, 121, 64, 199, 140, 115, 254, 111, 43, 238, 108, 3, 82])) (kl_lt (by decide)) w; rwa [show ofb (kl [163, 120, 89, 19, 202, 77, 235, 117, 171, 216, 65, 65, 77, 10, 112, 0, 152, 232, 121, 119, 121, 64, 199, 140, 115, 254, 111, 43, 238, 108, 3, 82]) = dN by decide +kernel] at this) rfl rfl) <|
    oc (k_st 0 0 (.agg (ai 22 (dg dN))) (c := ai 22 (fun _ => 0)) (n := ai 22 (dg dN)) (st22 (F := (dg dN)) (c := ai 22 (fun _ => 0)) 36 (ai_size _ _)) rfl rfl) <|
    ok_nil
  clear h; intro β a w h
  refine sym_then ?_
  refine wp_ret ?_
  exact s_rc (b := 0) (t0 := 36) (c := ai 22 (dg dN)) h Tryz.results68 Tryz.underlying36 (fun hb => ⟨rfl, hb⟩) (by rw [ai_size]; kernel_rfl)

set_option maxHeartbeats 4000000 in
theorem origin_r  (W0 : World) : Calls Tryz.prog 30 #[] W0 fun e w' => e = .returned (.agg (cis [0, 1, 1, 0])) ∧ Below W0.heap.size W0 w' := by
  refine s_in Tryz.func30 Tryz.ntmps30 rfl [] ?_
  intro β a h
  refine sym_seq ?_
  refine St.rg h [(0, .inr (0, pt 0))] [(cis [0, 0, 0, 0], 38)] [] [eN 0] ?_ ?_
  · exact oc (k_al 0 alR rfl rfl) <|
    ok_nil
  clear h; intro β a w h
  refine sym_then ?_
  refine sym_seq ?_
  refine St.rg h [(2, .inl (.agg (ai 22 (dg 1)))), (1, .inr (1, pt 0))] [(ai 22 (fun _ => 0), 36)] [(1, ai 22 (dg 1))] [nn, eN 1, eS 1] ?_ ?_
  · exact oc (k_ca 33 #[.int .i64 (1 : Nat)] (.agg (ai 22 (dg 1))) (fun w => int_r (N := 1) (by decide) w) rfl rfl) <|
    oc (k_al 1 al22 rfl rfl) <|
    oc (k_st 1 0 (.agg (ai 22 (dg 1))) (c := ai 22 (fun _ => 0)) (n := ai 22 (dg 1)) (st22 (F := (dg 1)) (c := ai 22 (fun _ => 0)) 36 (ai_size _ _)) rfl rfl) <|
    ok_nil
  clear h; intro β a w h
  refine sym_then ?_
  refine sym_seq ?_
  refine St.rg h [(3, .inl (.agg (ai 22 (dg 1)))), (4, .inl (.agg (ai 22 (dg 1)))), (5, .inl (.agg (cis [0, 1, 1, 0])))] [] [(0, cis [0, 1, 1, 0])] [eR 1, eR 1, nn, eS 0] ?_ ?_
  · exact oc (k_ld 1 0 (.agg (ai 22 (dg 1))) (c := ai 22 (dg 1)) (ld22 (F := (dg 1)) 36) rfl rfl) <|
    oc (k_ld 1 0 (.agg (ai 22 (dg 1))) (c := ai 22 (dg 1)) (ld22 (F := (dg 1)) 36) rfl rfl) <|
    oc (k_bu #[(1, .agg (ai 22 (dg 1))), (2, .agg (ai 22 (dg 1)))] (.agg (cis [0, 1, 1, 0])) (bdR2 (b := 1) (c := 1)) rfl rfl) <|
    oc (k_st 0 0 (.agg (cis [0, 1, 1, 0])) (c := cis [0, 0, 0, 0]) (n := cis [0, 1, 1, 0]) (stR (a := 0) (b := 1) (c := 1) (d := 0) (e := cis [0, 0, 0, 0]) 38 (by rw [cis_size]; rfl)) rfl rfl) <|
    ok_nil
  clear h; intro β a w h
  refine sym_then ?_
  refine wp_ret ?_
  exact s_rc (b := 0) (t0 := 38) (c := cis [0, 1, 1, 0]) h Tryz.results30 Tryz.underlying38 (fun hb => ⟨rfl, hb⟩) (by rw [cis_size]; kernel_rfl)

set_option maxHeartbeats 4000000 in
theorem plus_rp {x1 y1 z1 t1 x2 y2 z2 t2 : Nat} (hx1 : x1 < pp) (hy1 : y1 < pp) (hz1 : z1 < pp) (ht1 : t1 < pp) (hx2 : x2 < pp) (hy2 : y2 < pp) (hz2 : z2 < pp) (ht2 : t2 < pp) (W0 : World) : Calls Tryz.prog 31 #[.agg (cis [x1, y1, z1, t1]), .agg (cis [x2, y2, z2, t2])] W0 fun e w' => e = .returned (.agg (cis [mu (ad (mu x1 y2) (mu y1 x2)) (sb (mu z1 z2) (mu dN (mu t1 t2))), mu (ad (mu z1 z2) (mu dN (mu t1 t2))) (ad (mu y1 y2) (mu x1 x2)), mu (sb (mu z1 z2) (mu dN (mu t1 t2))) (ad (mu z1 z2) (mu dN (mu t1 t2))), mu (ad (mu x1 y2) (mu y1 x2)) (ad (mu y1 y2) (mu x1 x2))])) ∧ Below W0.heap.size W0 w' := by
  refine s_in Tryz.func31 Tryz.ntmps31 rfl [.inl (.agg (cis [x1, y1, z1, t1])), .inl (.agg (cis [x2, y2, z2, t2]))] ?_
  intro β a h
  refine sym_seq ?_
  refine St.rg h [(2, .inr (0, pt 0)), (3, .inr (1, pt 0)), (4, .inr (2, pt 0))] [(cis [x1, y1, z1, t1], 38), (cis [x2, y2, z2, t2], 38), (cis [0, 0, 0, 0], 38)] [] [eN 0, eN 1, eN 2] ?_ ?_
  · exact oc (k_bx 0 (.agg (cis [x1, y1, z1, t1])) (bxR (a := x1) (b := y1) (c := z1) (d := t1)) rfl rfl) <|
    oc (k_bx 1 (.agg (cis [x2, y2, z2, t2])) (bxR (a := x2) (b := y2) (c := z2) (d := t2)) rfl rfl) <|
    oc (k_al 2 alR rfl rfl) <|
    ok_nil
  clear h; intro β a w h
  refine sym_then ?_
  refine sym_seq ?_
  refine St.rg h [(13, .inr (0, pt 0)), (14, .inl (.agg (ai 22 (dg x1)))), (15, .inr (1, pt 0)), (16, .inl (.agg (ai 22 (dg x2)))), (17, .inl (.agg (ai 22 (dg (mu x1 x2))))), (5, .inr (3, pt 0))] [(ai 22 (fun _ => 0), 36)] [(3, ai 22 (dg (mu x1 x2)))] [nn, eR 0, nn, eR 1, nn, eN 3, eS 3] ?_ ?_
  · exact oc (k_fa 0 0 0 rfl rfl) <|
    oc (k_ld 0 0 (.agg (ai 22 (dg x1))) (c := cis [x1, y1, z1, t1]) (ld_cis (l := [x1, y1, z1, t1]) (k := 0) (n := x1) 38 rfl) rfl rfl) <|
    oc (k_fa 1 0 0 rfl rfl) <|
    oc (k_ld 1 0 (.agg (ai 22 (dg x2))) (c := cis [x2, y2, z2, t2]) (ld_cis (l := [x2, y2, z2, t2]) (k := 0) (n := x2) 38 rfl) rfl rfl) <|
    oc (k_ca 34 #[.agg (ai 22 (dg x1)), .agg (ai 22 (dg x2))] (.agg (ai 22 (dg (mu x1 x2)))) (fun w => times_rm hx1 hx2 w) rfl rfl) <|
    oc (k_al 3 al22 rfl rfl) <|
    oc (k_st 3 0 (.agg (ai 22 (dg (mu x1 x2)))) (c := ai 22 (fun _ => 0)) (n := ai 22 (dg (mu x1 x2))) (st22 (F := (dg (mu x1 x2))) (c := ai 22 (fun _ => 0)) 36 (ai_size _ _)) rfl rfl) <|
    ok_nil
  clear h; intro β a w h
  refine sym_then ?_
  refine sym_seq ?_
  refine St.rg h [(18, .inr (0, pt 22)), (19, .inl (.agg (ai 22 (dg y1)))), (20, .inr (1, pt 22)), (21, .inl (.agg (ai 22 (dg y2)))), (22, .inl (.agg (ai 22 (dg (mu y1 y2))))), (6, .inr (4, pt 0))] [(ai 22 (fun _ => 0), 36)] [(4, ai 22 (dg (mu y1 y2)))] [nn, eR 0, nn, eR 1, nn, eN 4, eS 4] ?_ ?_
  · exact oc (k_fa 0 0 22 rfl rfl) <|
    oc (k_ld 0 22 (.agg (ai 22 (dg y1))) (c := cis [x1, y1, z1, t1]) (ld_cis (l := [x1, y1, z1, t1]) (k := 1) (n := y1) 38 rfl) rfl rfl) <|
    oc (k_fa 1 0 22 rfl rfl) <|
    oc (k_ld 1 22 (.agg (ai 22 (dg y2))) (c := cis [x2, y2, z2, t2]) (ld_cis (l := [x2, y2, z2, t2]) (k := 1) (n := y2) 38 rfl) rfl rfl) <|
    oc (k_ca 34 #[.agg (ai 22 (dg y1)), .agg (ai 22 (dg y2))] (.agg (ai 22 (dg (mu y1 y2)))) (fun w => times_rm hy1 hy2 w) rfl rfl) <|
    oc (k_al 4 al22 rfl rfl) <|
    oc (k_st 4 0 (.agg (ai 22 (dg (mu y1 y2)))) (c := ai 22 (fun _ => 0)) (n := ai 22 (dg (mu y1 y2))) (st22 (F := (dg (mu y1 y2))) (c := ai 22 (fun _ => 0)) 36 (ai_size _ _)) rfl rfl) <|
    ok_nil
  clear h; intro β a w h
  refine sym_then ?_
  refine sym_seq ?_
  refine St.rg h [(23, .inl (.agg (ai 22 (dg dN)))), (24, .inr (0, pt 66)), (25, .inl (.agg (ai 22 (dg t1)))), (26, .inr (1, pt 66)), (27, .inl (.agg (ai 22 (dg t2)))), (28, .inl (.agg (ai 22 (dg (mu t1 t2))))), (29, .inl (.agg (ai 22 (dg (mu dN (mu t1 t2)))))), (7, .inr (5, pt 0))] [(ai 22 (fun _ => 0), 36)] [(5, ai 22 (dg (mu dN (mu t1 t2))))] [nn, nn, eR 0, nn, eR 1, nn, nn, eN 5, eS 5] ?_ ?_
  · exact oc (k_ca 68 #[] (.agg (ai 22 (dg dN))) slope_r rfl rfl) <|
    oc (k_fa 0 0 66 rfl rfl) <|
    oc (k_ld 0 66 (.agg (ai 22 (dg t1))) (c := cis [x1, y1, z1, t1]) (ld_cis (l := [x1, y1, z1, t1]) (k := 3) (n := t1) 38 rfl) rfl rfl) <|
    oc (k_fa 1 0 66 rfl rfl) <|
    oc (k_ld 1 66 (.agg (ai 22 (dg t2))) (c := cis [x2, y2, z2, t2]) (ld_cis (l := [x2, y2, z2, t2]) (k := 3) (n := t2) 38 rfl) rfl rfl) <|
    oc (k_ca 34 #[.agg (ai 22 (dg t1)), .agg (ai 22 (dg t2))] (.agg (ai 22 (dg (mu t1 t2)))) (fun w => times_rm ht1 ht2 w) rfl rfl) <|
    oc (k_ca 34 #[.agg (ai 22 (dg dN)), .agg (ai 22 (dg (mu t1 t2)))] (.agg (ai 22 (dg (mu dN (mu t1 t2))))) (fun w => times_rm dN_lt (mu_lt _ _) w) rfl rfl) <|
    oc (k_al 5 al22 rfl rfl) <|
    oc (k_st 5 0 (.agg (ai 22 (dg (mu dN (mu t1 t2))))) (c := ai 22 (fun _ => 0)) (n := ai 22 (dg (mu dN (mu t1 t2)))) (st22 (F := (dg (mu dN (mu t1 t2)))) (c := ai 22 (fun _ => 0)) 36 (ai_size _ _)) rfl rfl) <|
    ok_nil
  clear h; intro β a w h
  refine sym_then ?_
  refine sym_seq ?_
  refine St.rg h [(30, .inr (0, pt 44)), (31, .inl (.agg (ai 22 (dg z1)))), (32, .inr (1, pt 44)), (33, .inl (.agg (ai 22 (dg z2)))), (34, .inl (.agg (ai 22 (dg (mu z1 z2))))), (8, .inr (6, pt 0))] [(ai 22 (fun _ => 0), 36)] [(6, ai 22 (dg (mu z1 z2)))] [nn, eR 0, nn, eR 1, nn, eN 6, eS 6] ?_ ?_
  · exact oc (k_fa 0 0 44 rfl rfl) <|
    oc (k_ld 0 44 (.agg (ai 22 (dg z1))) (c := cis [x1, y1, z1, t1]) (ld_cis (l := [x1, y1, z1, t1]) (k := 2) (n := z1) 38 rfl) rfl rfl) <|
    oc (k_fa 1 0 44 rfl rfl) <|
    oc (k_ld 1 44 (.agg (ai 22 (dg z2))) (c := cis [x2, y2, z2, t2]) (ld_cis (l := [x2, y2, z2, t2]) (k := 2) (n := z2) 38 rfl) rfl rfl) <|
    oc (k_ca 34 #[.agg (ai 22 (dg z1)), .agg (ai 22 (dg z2))] (.agg (ai 22 (dg (mu z1 z2)))) (fun w => times_rm hz1 hz2 w) rfl rfl) <|
    oc (k_al 6 al22 rfl rfl) <|
    oc (k_st 6 0 (.agg (ai 22 (dg (mu z1 z2)))) (c := ai 22 (fun _ => 0)) (n := ai 22 (dg (mu z1 z2))) (st22 (F := (dg (mu z1 z2))) (c := ai 22 (fun _ => 0)) 36 (ai_size _ _)) rfl rfl) <|
    ok_nil
  clear h; intro β a w h
  refine sym_then ?_
  refine sym_seq ?_
  refine St.rg h [(35, .inr (0, pt 0)), (36, .inl (.agg (ai 22 (dg x1)))), (37, .inr (1, pt 22)), (38, .inl (.agg (ai 22 (dg y2)))), (39, .inl (.agg (ai 22 (dg (mu x1 y2))))), (40, .inr (0, pt 22)), (41, .inl (.agg (ai 22 (dg y1)))), (42, .inr (1, pt 0)), (43, .inl (.agg (ai 22 (dg x2)))), (44, .inl (.agg (ai 22 (dg (mu y1 x2))))), (45, .inl (.agg (ai 22 (dg (ad (mu x1 y2) (mu y1 x2)))))), (9, .inr (7, pt 0))] [(ai 22 (fun _ => 0), 36)] [(7, ai 22 (dg (ad (mu x1 y2) (mu y1 x2))))] [nn, eR 0, nn, eR 1, nn, nn, eR 0, nn, eR 1, nn, nn, eN 7, eS 7] ?_ ?_
  · exact oc (k_fa 0 0 0 rfl rfl) <|
    oc (k_ld 0 0 (.agg (ai 22 (dg x1))) (c := cis [x1, y1, z1, t1]) (ld_cis (l := [x1, y1, z1, t1]) (k := 0) (n := x1) 38 rfl) rfl rfl) <|
    oc (k_fa 1 0 22 rfl rfl) <|
    oc (k_ld 1 22 (.agg (ai 22 (dg y2))) (c := cis [x2, y2, z2, t2]) (ld_cis (l := [x2, y2, z2, t2]) (k := 1) (n := y2) 38 rfl) rfl rfl) <|
    oc (k_ca 34 #[.agg (ai 22 (dg x1)), .agg (ai 22 (dg y2))] (.agg (ai 22 (dg (mu x1 y2)))) (fun w => times_rm hx1 hy2 w) rfl rfl) <|
    oc (k_fa 0 0 22 rfl rfl) <|
    oc (k_ld 0 22 (.agg (ai 22 (dg y1))) (c := cis [x1, y1, z1, t1]) (ld_cis (l := [x1, y1, z1, t1]) (k := 1) (n := y1) 38 rfl) rfl rfl) <|
    oc (k_fa 1 0 0 rfl rfl) <|
    oc (k_ld 1 0 (.agg (ai 22 (dg x2))) (c := cis [x2, y2, z2, t2]) (ld_cis (l := [x2, y2, z2, t2]) (k := 0) (n := x2) 38 rfl) rfl rfl) <|
    oc (k_ca 34 #[.agg (ai 22 (dg y1)), .agg (ai 22 (dg x2))] (.agg (ai 22 (dg (mu y1 x2)))) (fun w => times_rm hy1 hx2 w) rfl rfl) <|
    oc (k_ca 69 #[.agg (ai 22 (dg (mu x1 y2))), .agg (ai 22 (dg (mu y1 x2)))] (.agg (ai 22 (dg (ad (mu x1 y2) (mu y1 x2))))) (fun w => plus_rm (mu_lt _ _) (mu_lt _ _) w) rfl rfl) <|
    oc (k_al 7 al22 rfl rfl) <|
    oc (k_st 7 0 (.agg (ai 22 (dg (ad (mu x1 y2) (mu y1 x2))))) (c := ai 22 (fun _ => 0)) (n := ai 22 (dg (ad (mu x1 y2) (mu y1 x2)))) (st22 (F := (dg (ad (mu x1 y2) (mu y1 x2)))) (c := ai 22 (fun _ => 0)) 36 (ai_size _ _)) rfl rfl) <|
    ok_nil
  clear h; intro β a w h
  refine sym_then ?_
  refine sym_seq ?_
  refine St.rg h [(46, .inl (.agg (ai 22 (dg (mu z1 z2))))), (47, .inl (.agg (ai 22 (dg (mu dN (mu t1 t2)))))), (48, .inl (.agg (ai 22 (dg (sb (mu z1 z2) (mu dN (mu t1 t2))))))), (10, .inr (8, pt 0))] [(ai 22 (fun _ => 0), 36)] [(8, ai 22 (dg (sb (mu z1 z2) (mu dN (mu t1 t2)))))] [eR 6, eR 5, nn, eN 8, eS 8] ?_ ?_
  · exact oc (k_ld 6 0 (.agg (ai 22 (dg (mu z1 z2)))) (c := ai 22 (dg (mu z1 z2))) (ld22 (F := (dg (mu z1 z2))) 36) rfl rfl) <|
    oc (k_ld 5 0 (.agg (ai 22 (dg (mu dN (mu t1 t2))))) (c := ai 22 (dg (mu dN (mu t1 t2)))) (ld22 (F := (dg (mu dN (mu t1 t2)))) 36) rfl rfl) <|
    oc (k_ca 70 #[.agg (ai 22 (dg (mu z1 z2))), .agg (ai 22 (dg (mu dN (mu t1 t2))))] (.agg (ai 22 (dg (sb (mu z1 z2) (mu dN (mu t1 t2)))))) (fun w => minus_rm (mu_lt _ _) (mu_lt _ _) w) rfl rfl) <|
    oc (k_al 8 al22 rfl rfl) <|
    oc (k_st 8 0 (.agg (ai 22 (dg (sb (mu z1 z2) (mu dN (mu t1 t2)))))) (c := ai 22 (fun _ => 0)) (n := ai 22 (dg (sb (mu z1 z2) (mu dN (mu t1 t2))))) (st22 (F := (dg (sb (mu z1 z2) (mu dN (mu t1 t2))))) (c := ai 22 (fun _ => 0)) 36 (ai_size _ _)) rfl rfl) <|
    ok_nil
  clear h; intro β a w h
  refine sym_then ?_
  refine sym_seq ?_
  refine St.rg h [(49, .inl (.agg (ai 22 (dg (mu z1 z2))))), (50, .inl (.agg (ai 22 (dg (mu dN (mu t1 t2)))))), (51, .inl (.agg (ai 22 (dg (ad (mu z1 z2) (mu dN (mu t1 t2))))))), (11, .inr (9, pt 0))] [(ai 22 (fun _ => 0), 36)] [(9, ai 22 (dg (ad (mu z1 z2) (mu dN (mu t1 t2)))))] [eR 6, eR 5, nn, eN 9, eS 9] ?_ ?_
  · exact oc (k_ld 6 0 (.agg (ai 22 (dg (mu z1 z2)))) (c := ai 22 (dg (mu z1 z2))) (ld22 (F := (dg (mu z1 z2))) 36) rfl rfl) <|
    oc (k_ld 5 0 (.agg (ai 22 (dg (mu dN (mu t1 t2))))) (c := ai 22 (dg (mu dN (mu t1 t2)))) (ld22 (F := (dg (mu dN (mu t1 t2)))) 36) rfl rfl) <|
    oc (k_ca 69 #[.agg (ai 22 (dg (mu z1 z2))), .agg (ai 22 (dg (mu dN (mu t1 t2))))] (.agg (ai 22 (dg (ad (mu z1 z2) (mu dN (mu t1 t2)))))) (fun w => plus_rm (mu_lt _ _) (mu_lt _ _) w) rfl rfl) <|
    oc (k_al 9 al22 rfl rfl) <|
    oc (k_st 9 0 (.agg (ai 22 (dg (ad (mu z1 z2) (mu dN (mu t1 t2)))))) (c := ai 22 (fun _ => 0)) (n := ai 22 (dg (ad (mu z1 z2) (mu dN (mu t1 t2))))) (st22 (F := (dg (ad (mu z1 z2) (mu dN (mu t1 t2))))) (c := ai 22 (fun _ => 0)) 36 (ai_size _ _)) rfl rfl) <|
    ok_nil
  clear h; intro β a w h
  refine sym_then ?_
  refine sym_seq ?_
  refine St.rg h [(52, .inl (.agg (ai 22 (dg (mu y1 y2))))), (53, .inl (.agg (ai 22 (dg (mu x1 x2))))), (54, .inl (.agg (ai 22 (dg (ad (mu y1 y2) (mu x1 x2)))))), (12, .inr (10, pt 0))] [(ai 22 (fun _ => 0), 36)] [(10, ai 22 (dg (ad (mu y1 y2) (mu x1 x2))))] [eR 4, eR 3, nn, eN 10, eS 10] ?_ ?_
  · exact oc (k_ld 4 0 (.agg (ai 22 (dg (mu y1 y2)))) (c := ai 22 (dg (mu y1 y2))) (ld22 (F := (dg (mu y1 y2))) 36) rfl rfl) <|
    oc (k_ld 3 0 (.agg (ai 22 (dg (mu x1 x2)))) (c := ai 22 (dg (mu x1 x2))) (ld22 (F := (dg (mu x1 x2))) 36) rfl rfl) <|
    oc (k_ca 69 #[.agg (ai 22 (dg (mu y1 y2))), .agg (ai 22 (dg (mu x1 x2)))] (.agg (ai 22 (dg (ad (mu y1 y2) (mu x1 x2))))) (fun w => plus_rm (mu_lt _ _) (mu_lt _ _) w) rfl rfl) <|
    oc (k_al 10 al22 rfl rfl) <|
    oc (k_st 10 0 (.agg (ai 22 (dg (ad (mu y1 y2) (mu x1 x2))))) (c := ai 22 (fun _ => 0)) (n := ai 22 (dg (ad (mu y1 y2) (mu x1 x2)))) (st22 (F := (dg (ad (mu y1 y2) (mu x1 x2)))) (c := ai 22 (fun _ => 0)) 36 (ai_size _ _)) rfl rfl) <|
    ok_nil
  clear h; intro β a w h
  refine sym_then ?_
  refine sym_seq ?_
  refine St.rg h [(55, .inl (.agg (ai 22 (dg (ad (mu x1 y2) (mu y1 x2)))))), (56, .inl (.agg (ai 22 (dg (sb (mu z1 z2) (mu dN (mu t1 t2))))))), (57, .inl (.agg (ai 22 (dg (mu (ad (mu x1 y2) (mu y1 x2)) (sb (mu z1 z2) (mu dN (mu t1 t2)))))))), (58, .inl (.agg (ai 22 (dg (ad (mu z1 z2) (mu dN (mu t1 t2))))))), (59, .inl (.agg (ai 22 (dg (ad (mu y1 y2) (mu x1 x2)))))), (60, .inl (.agg (ai 22 (dg (mu (ad (mu z1 z2) (mu dN (mu t1 t2))) (ad (mu y1 y2) (mu x1 x2))))))), (61, .inl (.agg (ai 22 (dg (sb (mu z1 z2) (mu dN (mu t1 t2))))))), (62, .inl (.agg (ai 22 (dg (ad (mu z1 z2) (mu dN (mu t1 t2))))))), (63, .inl (.agg (ai 22 (dg (mu (sb (mu z1 z2) (mu dN (mu t1 t2))) (ad (mu z1 z2) (mu dN (mu t1 t2)))))))), (64, .inl (.agg (ai 22 (dg (ad (mu x1 y2) (mu y1 x2)))))), (65, .inl (.agg (ai 22 (dg (ad (mu y1 y2) (mu x1 x2)))))), (66, .inl (.agg (ai 22 (dg (mu (ad (mu x1 y2) (mu y1 x2)) (ad (mu y1 y2) (mu x1 x2))))))), (67, .inl (.agg (cis [(mu (ad (mu x1 y2) (mu y1 x2)) (sb (mu z1 z2) (mu dN (mu t1 t2)))), (mu (ad (mu z1 z2) (mu dN (mu t1 t2))) (ad (mu y1 y2) (mu x1 x2))), (mu (sb (mu z1 z2) (mu dN (mu t1 t2))) (ad (mu z1 z2) (mu dN (mu t1 t2)))), (mu (ad (mu x1 y2) (mu y1 x2)) (ad (mu y1 y2) (mu x1 x2)))])))] [] [(2, cis [(mu (ad (mu x1 y2) (mu y1 x2)) (sb (mu z1 z2) (mu dN (mu t1 t2)))), (mu (ad (mu z1 z2) (mu dN (mu t1 t2))) (ad (mu y1 y2) (mu x1 x2))), (mu (sb (mu z1 z2) (mu dN (mu t1 t2))) (ad (mu z1 z2) (mu dN (mu t1 t2)))), (mu (ad (mu x1 y2) (mu y1 x2)) (ad (mu y1 y2) (mu x1 x2)))])] [eR 7, eR 8, nn, eR 9, eR 10, nn, eR 8, eR 9, nn, eR 7, eR 10, nn, nn, eS 2] ?_ ?_
  · exact oc (k_ld 7 0 (.agg (ai 22 (dg (ad (mu x1 y2) (mu y1 x2))))) (c := ai 22 (dg (ad (mu x1 y2) (mu y1 x2)))) (ld22 (F := (dg (ad (mu x1 y2) (mu y1 x2)))) 36) rfl rfl) <|
    oc (k_ld 8 0 (.agg (ai 22 (dg (sb (mu z1 z2) (mu dN (mu t1 t2)))))) (c := ai 22 (dg (sb (mu z1 z2) (mu dN (mu t1 t2))))) (ld22 (F := (dg (sb (mu z1 z2) (mu dN (mu t1 t2))))) 36) rfl rfl) <|
    oc (k_ca 34 #[.agg (ai 22 (dg (ad (mu x1 y2) (mu y1 x2)))), .agg (ai 22 (dg (sb (mu z1 z2) (mu dN (mu t1 t2)))))] (.agg (ai 22 (dg (mu (ad (mu x1 y2) (mu y1 x2)) (sb (mu z1 z2) (mu dN (mu t1 t2))))))) (fun w => times_rm (ad_lt _ _) (sb_lt _ _) w) rfl rfl) <|
    oc (k_ld 9 0 (.agg (ai 22 (dg (ad (mu z1 z2) (mu dN (mu t1 t2)))))) (c := ai 22 (dg (ad (mu z1 z2) (mu dN (mu t1 t2))))) (ld22 (F := (dg (ad (mu z1 z2) (mu dN (mu t1 t2))))) 36) rfl rfl) <|
    oc (k_ld 10 0 (.agg (ai 22 (dg (ad (mu y1 y2) (mu x1 x2))))) (c := ai 22 (dg (ad (mu y1 y2) (mu x1 x2)))) (ld22 (F := (dg (ad (mu y1 y2) (mu x1 x2)))) 36) rfl rfl) <|
    oc (k_ca 34 #[.agg (ai 22 (dg (ad (mu z1 z2) (mu dN (mu t1 t2))))), .agg (ai 22 (dg (ad (mu y1 y2) (mu x1 x2))))] (.agg (ai 22 (dg (mu (ad (mu z1 z2) (mu dN (mu t1 t2))) (ad (mu y1 y2) (mu x1 x2)))))) (fun w => times_rm (ad_lt _ _) (ad_lt _ _) w) rfl rfl) <|
    oc (k_ld 8 0 (.agg (ai 22 (dg (sb (mu z1 z2) (mu dN (mu t1 t2)))))) (c := ai 22 (dg (sb (mu z1 z2) (mu dN (mu t1 t2))))) (ld22 (F := (dg (sb (mu z1 z2) (mu dN (mu t1 t2))))) 36) rfl rfl) <|
    oc (k_ld 9 0 (.agg (ai 22 (dg (ad (mu z1 z2) (mu dN (mu t1 t2)))))) (c := ai 22 (dg (ad (mu z1 z2) (mu dN (mu t1 t2))))) (ld22 (F := (dg (ad (mu z1 z2) (mu dN (mu t1 t2))))) 36) rfl rfl) <|
    oc (k_ca 34 #[.agg (ai 22 (dg (sb (mu z1 z2) (mu dN (mu t1 t2))))), .agg (ai 22 (dg (ad (mu z1 z2) (mu dN (mu t1 t2)))))] (.agg (ai 22 (dg (mu (sb (mu z1 z2) (mu dN (mu t1 t2))) (ad (mu z1 z2) (mu dN (mu t1 t2))))))) (fun w => times_rm (sb_lt _ _) (ad_lt _ _) w) rfl rfl) <|
    oc (k_ld 7 0 (.agg (ai 22 (dg (ad (mu x1 y2) (mu y1 x2))))) (c := ai 22 (dg (ad (mu x1 y2) (mu y1 x2)))) (ld22 (F := (dg (ad (mu x1 y2) (mu y1 x2)))) 36) rfl rfl) <|
    oc (k_ld 10 0 (.agg (ai 22 (dg (ad (mu y1 y2) (mu x1 x2))))) (c := ai 22 (dg (ad (mu y1 y2) (mu x1 x2)))) (ld22 (F := (dg (ad (mu y1 y2) (mu x1 x2)))) 36) rfl rfl) <|
    oc (k_ca 34 #[.agg (ai 22 (dg (ad (mu x1 y2) (mu y1 x2)))), .agg (ai 22 (dg (ad (mu y1 y2) (mu x1 x2))))] (.agg (ai 22 (dg (mu (ad (mu x1 y2) (mu y1 x2)) (ad (mu y1 y2) (mu x1 x2)))))) (fun w => times_rm (ad_lt _ _) (ad_lt _ _) w) rfl rfl) <|
    oc (k_bu #[(0, .agg (ai 22 (dg (mu (ad (mu x1 y2) (mu y1 x2)) (sb (mu z1 z2) (mu dN (mu t1 t2))))))), (1, .agg (ai 22 (dg (mu (ad (mu z1 z2) (mu dN (mu t1 t2))) (ad (mu y1 y2) (mu x1 x2)))))), (2, .agg (ai 22 (dg (mu (sb (mu z1 z2) (mu dN (mu t1 t2))) (ad (mu z1 z2) (mu dN (mu t1 t2))))))), (3, .agg (ai 22 (dg (mu (ad (mu x1 y2) (mu y1 x2)) (ad (mu y1 y2) (mu x1 x2))))))] (.agg (cis [(mu (ad (mu x1 y2) (mu y1 x2)) (sb (mu z1 z2) (mu dN (mu t1 t2)))), (mu (ad (mu z1 z2) (mu dN (mu t1 t2))) (ad (mu y1 y2) (mu x1 x2))), (mu (sb (mu z1 z2) (mu dN (mu t1 t2))) (ad (mu z1 z2) (mu dN (mu t1 t2)))), (mu (ad (mu x1 y2) (mu y1 x2)) (ad (mu y1 y2) (mu x1 x2)))])) (bdR (a := (mu (ad (mu x1 y2) (mu y1 x2)) (sb (mu z1 z2) (mu dN (mu t1 t2))))) (b := (mu (ad (mu z1 z2) (mu dN (mu t1 t2))) (ad (mu y1 y2) (mu x1 x2)))) (c := (mu (sb (mu z1 z2) (mu dN (mu t1 t2))) (ad (mu z1 z2) (mu dN (mu t1 t2))))) (d := (mu (ad (mu x1 y2) (mu y1 x2)) (ad (mu y1 y2) (mu x1 x2))))) rfl rfl) <|
    oc (k_st 2 0 (.agg (cis [(mu (ad (mu x1 y2) (mu y1 x2)) (sb (mu z1 z2) (mu dN (mu t1 t2)))), (mu (ad (mu z1 z2) (mu dN (mu t1 t2))) (ad (mu y1 y2) (mu x1 x2))), (mu (sb (mu z1 z2) (mu dN (mu t1 t2))) (ad (mu z1 z2) (mu dN (mu t1 t2)))), (mu (ad (mu x1 y2) (mu y1 x2)) (ad (mu y1 y2) (mu x1 x2)))])) (c := cis [0, 0, 0, 0]) (n := cis [(mu (ad (mu x1 y2) (mu y1 x2)) (sb (mu z1 z2) (mu dN (mu t1 t2)))), (mu (ad (mu z1 z2) (mu dN (mu t1 t2))) (ad (mu y1 y2) (mu x1 x2))), (mu (sb (mu z1 z2) (mu dN (mu t1 t2))) (ad (mu z1 z2) (mu dN (mu t1 t2)))), (mu (ad (mu x1 y2) (mu y1 x2)) (ad (mu y1 y2) (mu x1 x2)))]) (stR (a := (mu (ad (mu x1 y2) (mu y1 x2)) (sb (mu z1 z2) (mu dN (mu t1 t2))))) (b := (mu (ad (mu z1 z2) (mu dN (mu t1 t2))) (ad (mu y1 y2) (mu x1 x2)))) (c := (mu (sb (mu z1 z2) (mu dN (mu t1 t2))) (ad (mu z1 z2) (mu dN (mu t1 t2))))) (d := (mu (ad (mu x1 y2) (mu y1 x2)) (ad (mu y1 y2) (mu x1 x2)))) (e := cis [0, 0, 0, 0]) 38 (by rw [cis_size]; rfl)) rfl rfl) <|
    ok_nil
  clear h; intro β a w h
  refine sym_then ?_
  refine wp_ret ?_
  exact s_rc (b := 2) (t0 := 38) (c := cis [(mu (ad (mu x1 y2) (mu y1 x2)) (sb (mu z1 z2) (mu dN (mu t1 t2)))), (mu (ad (mu z1 z2) (mu dN (mu t1 t2))) (ad (mu y1 y2) (mu x1 x2))), (mu (sb (mu z1 z2) (mu dN (mu t1 t2))) (ad (mu z1 z2) (mu dN (mu t1 t2)))), (mu (ad (mu x1 y2) (mu y1 x2)) (ad (mu y1 y2) (mu x1 x2)))]) h Tryz.results31 Tryz.underlying38 (fun hb => ⟨rfl, hb⟩) (by rw [cis_size]; kernel_rfl)

set_option maxHeartbeats 4000000 in
theorem rkey_e {x1 y1 z1 t1 : Nat} (hx1 : x1 < pp) (hy1 : y1 < pp) (hz1 : z1 < pp) (hev : (mu x1 (inv z1)) % 2 = 0) (W0 : World) : Calls Tryz.prog 12 #[.agg (cis [x1, y1, z1, t1])] W0 fun e w' => e = .returned (.agg (ck (kb (mu y1 (inv z1))))) ∧ Below W0.heap.size W0 w' := by
  have g1 := dg_par4 (mu x1 (inv z1))
  refine s_in Tryz.func12 Tryz.ntmps12 rfl [.inl (.agg (cis [x1, y1, z1, t1]))] ?_
  intro β a h
  refine sym_seq ?_
  refine St.rg h [(1, .inr (0, pt 0)), (2, .inr (1, pt 0))] [(cis [x1, y1, z1, t1], 38), (ck (fun _ => 0), 23)] [] [eN 0, eN 1] ?_ ?_
  · exact oc (k_bx 0 (.agg (cis [x1, y1, z1, t1])) (bxR (a := x1) (b := y1) (c := z1) (d := t1)) rfl rfl) <|
    oc (k_al 1 alK rfl rfl) <|
    ok_nil
  clear h; intro β a w h
  refine sym_then ?_
  refine sym_seq ?_
  refine St.rg h [(4, .inr (0, pt 22)), (5, .inl (.agg (ai 22 (dg y1)))), (6, .inr (0, pt 44)), (7, .inl (.agg (ai 22 (dg z1)))), (8, .inl (.agg (ai 22 (dg (mu y1 (inv z1)))))), (9, .inl (.agg (ck (kb (mu y1 (inv z1)))))), (3, .inr (2, pt 0))] [(ck (fun _ => 0), 23)] [(2, ck (kb (mu y1 (inv z1))))] [nn, eR 0, nn, eR 0, nn, nn, eN 2, eS 2] ?_ ?_
  · exact oc (k_fa 0 0 22 rfl rfl) <|
    oc (k_ld 0 22 (.agg (ai 22 (dg y1))) (c := cis [x1, y1, z1, t1]) (ld_cis (l := [x1, y1, z1, t1]) (k := 1) (n := y1) 38 rfl) rfl rfl) <|
    oc (k_fa 0 0 44 rfl rfl) <|
    oc (k_ld 0 44 (.agg (ai 22 (dg z1))) (c := cis [x1, y1, z1, t1]) (ld_cis (l := [x1, y1, z1, t1]) (k := 2) (n := z1) 38 rfl) rfl rfl) <|
    oc (k_ca 29 #[.agg (ai 22 (dg y1)), .agg (ai 22 (dg z1))] (.agg (ai 22 (dg (mu y1 (inv z1))))) (fun w => over_rm hy1 hz1 w) rfl rfl) <|
    oc (k_ca 28 #[.agg (ai 22 (dg (mu y1 (inv z1))))] (.agg (ck (kb (mu y1 (inv z1))))) (fun w => key_rm (mu_lt _ _) w) rfl rfl) <|
    oc (k_al 2 alK rfl rfl) <|
    oc (k_st 2 0 (.agg (ck (kb (mu y1 (inv z1))))) (c := ck (fun _ => 0)) (n := ck (kb (mu y1 (inv z1)))) (stK (F := (kb (mu y1 (inv z1)))) (c := ck (fun _ => 0)) 23 (ck_size _)) rfl rfl) <|
    ok_nil
  clear h; intro β a w h
  refine sym_then ?_
  refine sym_seq ?_
  refine sym_seq ?_
  refine St.r0 h [(10, .inr (0, pt 0)), (11, .inl (.agg (ai 22 (dg x1)))), (12, .inr (0, pt 44)), (13, .inl (.agg (ai 22 (dg z1)))), (14, .inl (.agg (ai 22 (dg (mu x1 (inv z1)))))), (15, .inl (.int .i64 ((dg (mu x1 (inv z1)) 0) : Nat))), (16, .inl (.int .i64 (((dg (mu x1 (inv z1)) 0) % 2) : Nat))), (17, .inl (.bool false))] [nn, eR 0, nn, eR 0] ?_ ?_
  · exact oc (k_fa 0 0 0 rfl rfl) <|
    oc (k_ld 0 0 (.agg (ai 22 (dg x1))) (c := cis [x1, y1, z1, t1]) (ld_cis (l := [x1, y1, z1, t1]) (k := 0) (n := x1) 38 rfl) rfl rfl) <|
    oc (k_fa 0 0 44 rfl rfl) <|
    oc (k_ld 0 44 (.agg (ai 22 (dg z1))) (c := cis [x1, y1, z1, t1]) (ld_cis (l := [x1, y1, z1, t1]) (k := 2) (n := z1) 38 rfl) rfl rfl) <|
    oz (k_ca 29 #[.agg (ai 22 (dg x1)), .agg (ai 22 (dg z1))] (.agg (ai 22 (dg (mu x1 (inv z1))))) (fun w => over_rm hx1 hz1 w) rfl rfl) <|
    oz (k_ix (.agg (ai 22 (dg (mu x1 (inv z1))))) (.int .i64 (0 : Nat)) (.int .i64 ((dg (mu x1 (inv z1)) 0) : Nat)) (ix_r (n := (mu x1 (inv z1)))) rfl rfl) <|
    oz (k_bi (.int .i64 ((dg (mu x1 (inv z1)) 0) : Nat)) (.int .i64 (2 : Nat)) (.int .i64 (((dg (mu x1 (inv z1)) 0) % 2) : Nat)) (re_i (m := (dg (mu x1 (inv z1)) 0)) (n := 2) (by decide)) rfl rfl) <|
    oz (k_bi (.int .i64 (((dg (mu x1 (inv z1)) 0) % 2) : Nat)) (.int .i64 (1 : Nat)) (.bool false) (eq_i (m := ((((dg (mu x1 (inv z1)) 0) % 2) : Nat) : Int)) (n := ((1 : Nat) : Int)) (decide_eq_false (by omega))) rfl rfl) <|
    ok_nil
  clear h; intro β a w h
  refine sym_then ?_
  refine s_cf h ?_
  refine wp_skip ?_
  refine sym_then ?_
  refine sym_seq ?_
  refine St.rg h [(22, .inl (.agg (ck (kb (mu y1 (inv z1))))))] [] [(1, ck (kb (mu y1 (inv z1))))] [eR 2, eS 1] ?_ ?_
  · exact oc (k_ld 2 0 (.agg (ck (kb (mu y1 (inv z1))))) (c := ck (kb (mu y1 (inv z1)))) (ldK (b := (kb (mu y1 (inv z1)))) 23) rfl rfl) <|
    oc (k_st 1 0 (.agg (ck (kb (mu y1 (inv z1))))) (c := ck (fun _ => 0)) (n := ck (kb (mu y1 (inv z1)))) (stK (F := (kb (mu y1 (inv z1)))) (c := ck (fun _ => 0)) 23 (ck_size _)) rfl rfl) <|
    ok_nil
  clear h; intro β a w h
  refine sym_then ?_
  refine wp_ret ?_
  exact s_rc (b := 1) (t0 := 23) (c := ck (kb (mu y1 (inv z1)))) h Tryz.results12 Tryz.underlying23 (fun hb => ⟨rfl, hb⟩) (by rw [ck_size]; kernel_rfl)

set_option maxHeartbeats 4000000 in
theorem rkey_o {x1 y1 z1 t1 : Nat} (hx1 : x1 < pp) (hy1 : y1 < pp) (hz1 : z1 < pp) (hev : (mu x1 (inv z1)) % 2 = 1) (W0 : World) : Calls Tryz.prog 12 #[.agg (cis [x1, y1, z1, t1])] W0 fun e w' => e = .returned (.agg (ck (updN (kb (mu y1 (inv z1))) 31 (kb (mu y1 (inv z1)) 31 + 128)))) ∧ Below W0.heap.size W0 w' := by
  have g1 := dg_par4 (mu x1 (inv z1))
  have g2 := kb_top (mu_lt y1 (inv z1))
  refine s_in Tryz.func12 Tryz.ntmps12 rfl [.inl (.agg (cis [x1, y1, z1, t1]))] ?_
  intro β a h
  refine sym_seq ?_
  refine St.rg h [(1, .inr (0, pt 0)), (2, .inr (1, pt 0))] [(cis [x1, y1, z1, t1], 38), (ck (fun _ => 0), 23)] [] [eN 0, eN 1] ?_ ?_
  · exact oc (k_bx 0 (.agg (cis [x1, y1, z1, t1])) (bxR (a := x1) (b := y1) (c := z1) (d := t1)) rfl rfl) <|
    oc (k_al 1 alK rfl rfl) <|
    ok_nil
  clear h; intro β a w h
  refine sym_then ?_
  refine sym_seq ?_
  refine St.rg h [(4, .inr (0, pt 22)), (5, .inl (.agg (ai 22 (dg y1)))), (6, .inr (0, pt 44)), (7, .inl (.agg (ai 22 (dg z1)))), (8, .inl (.agg (ai 22 (dg (mu y1 (inv z1)))))), (9, .inl (.agg (ck (kb (mu y1 (inv z1)))))), (3, .inr (2, pt 0))] [(ck (fun _ => 0), 23)] [(2, ck (kb (mu y1 (inv z1))))] [nn, eR 0, nn, eR 0, nn, nn, eN 2, eS 2] ?_ ?_
  · exact oc (k_fa 0 0 22 rfl rfl) <|
    oc (k_ld 0 22 (.agg (ai 22 (dg y1))) (c := cis [x1, y1, z1, t1]) (ld_cis (l := [x1, y1, z1, t1]) (k := 1) (n := y1) 38 rfl) rfl rfl) <|
    oc (k_fa 0 0 44 rfl rfl) <|
    oc (k_ld 0 44 (.agg (ai 22 (dg z1))) (c := cis [x1, y1, z1, t1]) (ld_cis (l := [x1, y1, z1, t1]) (k := 2) (n := z1) 38 rfl) rfl rfl) <|
    oc (k_ca 29 #[.agg (ai 22 (dg y1)), .agg (ai 22 (dg z1))] (.agg (ai 22 (dg (mu y1 (inv z1))))) (fun w => over_rm hy1 hz1 w) rfl rfl) <|
    oc (k_ca 28 #[.agg (ai 22 (dg (mu y1 (inv z1))))] (.agg (ck (kb (mu y1 (inv z1))))) (fun w => key_rm (mu_lt _ _) w) rfl rfl) <|
    oc (k_al 2 alK rfl rfl) <|
    oc (k_st 2 0 (.agg (ck (kb (mu y1 (inv z1))))) (c := ck (fun _ => 0)) (n := ck (kb (mu y1 (inv z1)))) (stK (F := (kb (mu y1 (inv z1)))) (c := ck (fun _ => 0)) 23 (ck_size _)) rfl rfl) <|
    ok_nil
  clear h; intro β a w h
  refine sym_then ?_
  refine sym_seq ?_
  refine sym_seq ?_
  refine St.r0 h [(10, .inr (0, pt 0)), (11, .inl (.agg (ai 22 (dg x1)))), (12, .inr (0, pt 44)), (13, .inl (.agg (ai 22 (dg z1)))), (14, .inl (.agg (ai 22 (dg (mu x1 (inv z1)))))), (15, .inl (.int .i64 ((dg (mu x1 (inv z1)) 0) : Nat))), (16, .inl (.int .i64 (((dg (mu x1 (inv z1)) 0) % 2) : Nat))), (17, .inl (.bool true))] [nn, eR 0, nn, eR 0] ?_ ?_
  · exact oc (k_fa 0 0 0 rfl rfl) <|
    oc (k_ld 0 0 (.agg (ai 22 (dg x1))) (c := cis [x1, y1, z1, t1]) (ld_cis (l := [x1, y1, z1, t1]) (k := 0) (n := x1) 38 rfl) rfl rfl) <|
    oc (k_fa 0 0 44 rfl rfl) <|
    oc (k_ld 0 44 (.agg (ai 22 (dg z1))) (c := cis [x1, y1, z1, t1]) (ld_cis (l := [x1, y1, z1, t1]) (k := 2) (n := z1) 38 rfl) rfl rfl) <|
    oz (k_ca 29 #[.agg (ai 22 (dg x1)), .agg (ai 22 (dg z1))] (.agg (ai 22 (dg (mu x1 (inv z1))))) (fun w => over_rm hx1 hz1 w) rfl rfl) <|
    oz (k_ix (.agg (ai 22 (dg (mu x1 (inv z1))))) (.int .i64 (0 : Nat)) (.int .i64 ((dg (mu x1 (inv z1)) 0) : Nat)) (ix_r (n := (mu x1 (inv z1)))) rfl rfl) <|
    oz (k_bi (.int .i64 ((dg (mu x1 (inv z1)) 0) : Nat)) (.int .i64 (2 : Nat)) (.int .i64 (((dg (mu x1 (inv z1)) 0) % 2) : Nat)) (re_i (m := (dg (mu x1 (inv z1)) 0)) (n := 2) (by decide)) rfl rfl) <|
    oz (k_bi (.int .i64 (((dg (mu x1 (inv z1)) 0) % 2) : Nat)) (.int .i64 (1 : Nat)) (.bool true) (eq_i (m := ((((dg (mu x1 (inv z1)) 0) % 2) : Nat) : Int)) (n := ((1 : Nat) : Int)) (decide_eq_true (by omega))) rfl rfl) <|
    ok_nil
  clear h; intro β a w h
  refine sym_then ?_
  refine s_ct h ?_
  refine St.rg h [(18, .inr (2, pt 31)), (19, .inl (.int .u8 (((kb (mu y1 (inv z1))) 31) : Nat))), (20, .inl (.int .u8 ((((kb (mu y1 (inv z1))) 31) + 128) : Nat))), (21, .inr (2, pt 31))] [] [(2, ck (updN (kb (mu y1 (inv z1))) 31 (((kb (mu y1 (inv z1))) 31) + 128)))] [nn, eR 2, nn, nn, eS 2] ?_ ?_
  · exact oc (k_ia 2 0 31 (.int .i64 (31 : Nat)) (ixK (i := 31) (by omega)) rfl rfl) <|
    oc (k_ld 2 31 (.int .u8 (((kb (mu y1 (inv z1))) 31) : Nat)) (c := ck (kb (mu y1 (inv z1)))) (ld_k (F := (kb (mu y1 (inv z1)))) (i := 31) (t0 := 23) (by omega)) rfl rfl) <|
    oc (k_bi (.int .u8 (((kb (mu y1 (inv z1))) 31) : Nat)) (.int .u8 (128 : Nat)) (.int .u8 ((((kb (mu y1 (inv z1))) 31) + 128) : Nat)) (ad_b (m := ((kb (mu y1 (inv z1))) 31)) (n := 128) (by omega)) rfl rfl) <|
    oc (k_ia 2 0 31 (.int .i64 (31 : Nat)) (ixK (i := 31) (by omega)) rfl rfl) <|
    oc (k_st 2 31 (.int .u8 ((((kb (mu y1 (inv z1))) 31) + 128) : Nat)) (c := ck (kb (mu y1 (inv z1)))) (n := ck (updN (kb (mu y1 (inv z1))) 31 (((kb (mu y1 (inv z1))) 31) + 128))) (st_k (F := (kb (mu y1 (inv z1)))) (i := 31) (v := (((kb (mu y1 (inv z1))) 31) + 128)) (t0 := 23) (by omega)) rfl rfl) <|
    ok_nil
  clear h; intro β a w h
  refine sym_then ?_
  refine sym_seq ?_
  refine St.rg h [(22, .inl (.agg (ck (updN (kb (mu y1 (inv z1))) 31 (((kb (mu y1 (inv z1))) 31) + 128)))))] [] [(1, ck (updN (kb (mu y1 (inv z1))) 31 (((kb (mu y1 (inv z1))) 31) + 128)))] [eR 2, eS 1] ?_ ?_
  · exact oc (k_ld 2 0 (.agg (ck (updN (kb (mu y1 (inv z1))) 31 (((kb (mu y1 (inv z1))) 31) + 128)))) (c := ck (updN (kb (mu y1 (inv z1))) 31 (((kb (mu y1 (inv z1))) 31) + 128))) (ldK (b := (updN (kb (mu y1 (inv z1))) 31 (((kb (mu y1 (inv z1))) 31) + 128))) 23) rfl rfl) <|
    oc (k_st 1 0 (.agg (ck (updN (kb (mu y1 (inv z1))) 31 (((kb (mu y1 (inv z1))) 31) + 128)))) (c := ck (fun _ => 0)) (n := ck (updN (kb (mu y1 (inv z1))) 31 (((kb (mu y1 (inv z1))) 31) + 128))) (stK (F := (updN (kb (mu y1 (inv z1))) 31 (((kb (mu y1 (inv z1))) 31) + 128))) (c := ck (fun _ => 0)) 23 (ck_size _)) rfl rfl) <|
    ok_nil
  clear h; intro β a w h
  refine sym_then ?_
  refine wp_ret ?_
  exact s_rc (b := 1) (t0 := 23) (c := ck (updN (kb (mu y1 (inv z1))) 31 (((kb (mu y1 (inv z1))) 31) + 128))) h Tryz.results12 Tryz.underlying23 (fun hb => ⟨rfl, hb⟩) (by rw [ck_size]; kernel_rfl)

end Go.Proofs.YtacokkedomjgpaaGreatDoor

namespace Go.Proofs.YtacokkedomjgpaaGreatDoor
open Go.RowKit
theorem ad_sb {y : Nat} (h : y < pp) : ad (sb y 1) 1 = y := by
  unfold ad sb
  have := one_ltp
  rw [Nat.mod_add_mod, show y + (pp - 1) + 1 = y + pp by omega, Nat.add_mod_right, Nat.mod_eq_of_lt h]
theorem sb_odd {r : Nat} (hr : r < pp) (h0 : r ≠ 0) (he : r % 2 = 0) : sb 0 r % 2 = 1 := by
  have e : sb 0 r = pp - r := by
    unfold sb
    rw [Nat.zero_add]; exact Nat.mod_eq_of_lt (by omega)
  rw [e]
  have := pp_odd
  omega
theorem ring_q {R : Type} [Lean.Grind.CommRing R] (f g o x w : R) (h1 : f * g = o) (h2 : o * (x * w) = x * w) : f * x * (o * (g * w)) = x * w := by grind
instance : NeZero pp := ⟨by decide +kernel⟩
def cf (n : Nat) : Fin pp := Fin.ofNat pp n
theorem cf_mu (m n : Nat) : cf (mu m n) = cf m * cf n := by
  apply Fin.ext
  simp only [cf, mu, Fin.ofNat, Fin.val_mul]
  rw [Nat.mod_mod, Nat.mul_mod]
theorem cf_ad (m n : Nat) : cf (ad m n) = cf m + cf n := by
  apply Fin.ext
  simp only [cf, ad, Fin.ofNat, Fin.val_add]
  rw [Nat.mod_mod, Nat.add_mod]
theorem cf_sb {m n : Nat} (h : n < pp) : cf (sb m n) = cf m - cf n := by
  apply Fin.ext
  simp only [cf, sb, Fin.ofNat, Fin.sub_def]
  rw [Nat.mod_mod, Nat.mod_eq_of_lt h, Nat.add_mod_mod, Nat.add_comm]
theorem cf_inj {m n : Nat} (hm : m < pp) (hn : n < pp) (h : cf m = cf n) : m = n := by
  have := congrArg Fin.val h
  simp only [cf, Fin.ofNat] at this
  rwa [Nat.mod_eq_of_lt hm, Nat.mod_eq_of_lt hn] at this
def qd (n : Nat) : Nat := ad (ad n n) (ad n n)
theorem qd_mu (n : Nat) : qd n = mu 4 n := by
  unfold qd ad mu
  rw [← Nat.add_mod]
  exact congrArg (· % pp) (by omega)
theorem inv_mu (m n : Nat) : inv (mu m n) = mu (inv m) (inv n) := by
  obtain ⟨k, hk⟩ : ∃ k : Nat, k = 57896044618658097711785492504343953926634992332820282019728792003956564819947 := ⟨_, rfl⟩
  rw [← inv_pow_eq hk, ← inv_pow_eq hk, ← inv_pow_eq hk]
  exact mul_pow_mod
theorem one_mu {n : Nat} (h : n < pp) : mu 1 n = n := by unfold mu; rw [Nat.one_mul, Nat.mod_eq_of_lt h]
theorem four_inv : mu 4 (inv 4) = 1 := by decide +kernel
theorem quo {x z : Nat} : mu (qd x) (mu 1 (inv (qd z))) = mu x (inv z) := by
  rw [qd_mu, qd_mu, inv_mu]
  refine cf_inj (mu_lt _ _) (mu_lt _ _) ?_
  have h1 := congrArg cf four_inv
  have h2 := congrArg cf (one_mu (mu_lt x (inv z)))
  simp only [cf_mu] at h1 h2 ⊢
  exact ring_q _ _ _ _ _ h1 h2
def tk (x y : Nat) : Nat → Nat := if x % 2 = 0 then kb y else updN (kb y) 31 (kb y 31 + 128)
theorem pk {x b : Nat} (hx : x < pp) (hb : b < pp) (W0 : World) : Calls Tryz.prog 22 #[.agg (ces [x, b])] W0 fun e w' => e = .returned (.agg (ck (tk x (ad b 1)))) ∧ Below W0.heap.size W0 w' := by
  unfold tk
  by_cases h : x % 2 = 0
  · have := pkey_e hx hb h W0
    rw [ck_congr (byt_kb _)] at this
    rw [if_pos h]; exact this
  · have := pkey_o hx hb h W0
    rw [ck_congr (G := updN (kb (ad b 1)) 31 (kb (ad b 1) 31 + 128)) (fun i hi => by
      unfold updN
      split
      · rw [byt_kb _ 31 (by omega)]
      · exact byt_kb _ i hi)] at this
    rw [if_neg h]; exact this
theorem rk {x1 y1 z1 t1 : Nat} (hx1 : x1 < pp) (hy1 : y1 < pp) (hz1 : z1 < pp) (W0 : World) : Calls Tryz.prog 12 #[.agg (cis [x1, y1, z1, t1])] W0 fun e w' => e = .returned (.agg (ck (tk (mu x1 (inv z1)) (mu y1 (inv z1))))) ∧ Below W0.heap.size W0 w' := by
  unfold tk
  by_cases h : mu x1 (inv z1) % 2 = 0
  · rw [if_pos h]; exact rkey_e hx1 hy1 hz1 h W0
  · rw [if_neg h]; exact rkey_o hx1 hy1 hz1 (by omega) W0
def uY (y : Nat) : Nat := mu (sb (mu y y) 1) (inv (ad (mu dN (mu y y)) 1))
theorem same_x {x1 x2 y : Nat} (hx1 : x1 < pp) (hx2 : x2 < pp) (h1 : mu x1 x1 = uY y) (h2 : mu x2 x2 = uY y) (hp : x1 % 2 = x2 % 2) : x1 = x2 := by
  rcases sq_eq hx1 hx2 (h1.trans h2.symm) with h | h
  · exact h
  · have := pp_odd
    omega
end Go.Proofs.YtacokkedomjgpaaGreatDoor

namespace Go.Proofs.YtacokkedomjgpaaGreatDoor
open Go.RowKit
theorem neg_sq {r : Nat} (hr : r < pp) (h0 : r ≠ 0) : mu (sb 0 r) (sb 0 r) = mu r r := by
  have e : sb 0 r = pp - r := by
    unfold sb
    rw [Nat.zero_add]; exact Nat.mod_eq_of_lt (by omega)
  rw [e]; unfold mu
  exact sq_neg (Nat.le_of_lt hr)
end Go.Proofs.YtacokkedomjgpaaGreatDoor

namespace Go.Proofs.YtacokkedomjgpaaGreatDoor
theorem no_den {R : Type} [Lean.Grind.CommRing R] (d i : R) (nzd : ∀ a b : R, a * b = 0 → a = 0 ∨ b = 0) (h20 : ∀ a : R, a + a = 0 → a = 0) (h10 : (1 : R) ≠ 0) (ns : ∀ a b : R, d * (b * b) = a * a → b = 0) (hi : i * i = -1) {x1 y1 x2 y2 e : R} (he : e * e = 1) (h1 : y1 * y1 - x1 * x1 = 1 + d * (x1 * x1 * y1 * y1)) (h2 : y2 * y2 - x2 * x2 = 1 + d * (x2 * x2 * y2 * y2)) (h : d * (x1 * x2 * y1 * y2) = e) : False := by
  have a1 := ns (y1 + i * e * x1) (x1 * y1 * (y2 + i * x2)) (by have := den_e d x1 y1 x2 y2 i e hi he h1 h2 h; grind)
  have a2 := ns (y1 + -i * e * x1) (x1 * y1 * (y2 + -i * x2)) (by have := den_e d x1 y1 x2 y2 (-i) e (by grind) he h1 h2 h; grind)
  have nxy : x1 * y1 ≠ 0 := by
    intro z
    have : e = 0 := by grind
    apply h10; grind
  have b1 : y2 + i * x2 = 0 := (nzd _ _ a1).resolve_left nxy
  have b2 : y2 + -i * x2 = 0 := (nzd _ _ a2).resolve_left nxy
  have c : y2 = 0 := h20 _ (by grind)
  apply h10
  grind
theorem no_den1 {R : Type} [Lean.Grind.CommRing R] (d i : R) (h10 : (1 : R) ≠ 0) (ns : ∀ a b : R, d * (b * b) = a * a → b = 0) (hi : i * i = -1) {y : R} (h : d * (y * y) + 1 = 0) : False := by
  have a1 := ns i y (by grind)
  apply h10
  grind
theorem fin_nzd (a b : Fin pp) (h : a * b = 0) : a = 0 ∨ b = 0 := by
  by_cases ha : a.val = 0
  · exact Or.inl (Fin.ext ha)
  · by_cases hb : b.val = 0
    · exact Or.inr (Fin.ext hb)
    · exact absurd (by have := congrArg Fin.val h; rw [Fin.val_mul] at this; exact this) (mul_ne a.isLt b.isLt ha hb)
theorem fin_20 (a : Fin pp) (h : a + a = 0) : a = 0 := by
  have := congrArg Fin.val h
  rw [Fin.val_add] at this
  apply Fin.ext
  have hl := a.isLt
  have ho := pp_odd
  change (a.val + a.val) % pp = 0 at this
  show a.val = 0
  rcases Nat.lt_or_ge (a.val + a.val) pp with c | c
  · rw [Nat.mod_eq_of_lt c] at this; omega
  · rw [Nat.mod_eq_sub_mod c, Nat.mod_eq_of_lt (by omega)] at this; omega
theorem fin_10 : (1 : Fin pp) ≠ 0 := by
  intro h
  have := congrArg Fin.val h
  exact absurd this (by decide +kernel)
theorem d_pow {k : Nat} (hk : k = 28948022309329048855892746252171976963317496166410141009864396001978282409974) : dN ^ k % pp = pp - 1 := by
  have h : k < 2 ^ 255 := by rw [hk]; decide +kernel
  rw [← pmod_eq dN pp 255 k h, hk]
  decide +kernel
theorem ring_d {R : Type} [Lean.Grind.CommRing R] (d a b c o : R) (h : d * (b * b) = a * a) (h1 : b * c = o) (h2 : o * d = d) : a * c * (a * c) = d := by grind
theorem d_nosq {a b : Nat} (hb : b < pp) (h0 : b ≠ 0) (h : mu dN (mu b b) = mu a a) : False := by
  obtain ⟨k, hk⟩ : ∃ k : Nat, k = 28948022309329048855892746252171976963317496166410141009864396001978282409974 := ⟨_, rfl⟩
  have hh : 2 * k + 1 = pp := by rw [hk]; unfold pp; omega
  have e : mu (mu a (inv b)) (mu a (inv b)) = dN := by
    refine cf_inj (mu_lt _ _) dN_lt ?_
    have h1 := congrArg cf h
    have h2 : cf (mu b (inv b)) = cf 1 := congrArg cf (inv_mul hb h0)
    have h3 := congrArg cf (one_mu dN_lt)
    simp only [cf_mu] at h1 h2 h3 ⊢
    exact ring_d _ _ _ _ _ h1 h2 h3
  have e1 := one_of_root hh (by decide +kernel) e
  rw [d_pow hk] at e1
  exact absurd e1 (by decide +kernel)
theorem cf_val (a : Fin pp) : cf a.val = a := Fin.ext (Nat.mod_eq_of_lt a.isLt)
theorem fin_ns (a b : Fin pp) (h : cf dN * (b * b) = a * a) : b = 0 := by
  by_cases hb : b.val = 0
  · exact Fin.ext hb
  · refine (d_nosq (a := a.val) b.isLt hb ?_).elim
    refine cf_inj (mu_lt _ _) (mu_lt _ _) ?_
    rw [cf_mu, cf_mu, cf_mu, cf_val, cf_val]; exact h
theorem fin_i : cf iRt * cf iRt = -(1 : Fin pp) := by
  have h : mu iRt iRt = sb 0 1 := by decide +kernel
  rw [← cf_mu, h]
  apply Fin.ext
  decide +kernel
theorem fin_den {x1 y1 x2 y2 e : Fin pp} (he : e * e = 1) (h1 : y1 * y1 - x1 * x1 = 1 + cf dN * (x1 * x1 * y1 * y1)) (h2 : y2 * y2 - x2 * x2 = 1 + cf dN * (x2 * x2 * y2 * y2)) (h : cf dN * (x1 * x2 * y1 * y2) = e) : False :=
  no_den (cf dN) (cf iRt) fin_nzd fin_20 fin_10 fin_ns fin_i he h1 h2 h
theorem fin_den1 {y : Fin pp} (h : cf dN * (y * y) + 1 = 0) : False :=
  no_den1 (cf dN) (cf iRt) fin_10 fin_ns fin_i h
end Go.Proofs.YtacokkedomjgpaaGreatDoor

namespace Go.Proofs.YtacokkedomjgpaaGreatDoor

section
variable {R : Type} [Lean.Grind.CommRing R]
theorem g_close (d N1 N2 A B a b : R) (hA : A * a = 1) (hB : B * b = 1) (h : N2 ^ 2 * A ^ 2 - N1 ^ 2 * B ^ 2 = B ^ 2 * A ^ 2 + d * (N1 ^ 2 * N2 ^ 2)) : N2 * b * (N2 * b) - N1 * a * (N1 * a) = 1 + d * (N1 * a * (N1 * a) * (N2 * b) * (N2 * b)) := by grind
theorem g_ax (d x1 y1 x3 y3 N1 N2 M1 M2 A B C E a b c e : R) (hA : A * a = 1) (hB : B * b = 1) (hC : C * c = 1) (hE : E * e = 1)
    (h : (N1 * B * y3 + N2 * A * x3) * (C * E + d * (M1 * M2) * (x1 * y1)) = (x1 * M2 * C + y1 * M1 * E) * (A * B + d * (N1 * N2) * (x3 * y3))) :
    (N1 * a * y3 + N2 * b * x3) * (1 + d * (x1 * (M1 * c) * y1 * (M2 * e))) = (x1 * (M2 * e) + y1 * (M1 * c)) * (1 + d * (N1 * a * x3 * (N2 * b) * y3)) := by
  have e1 : (N1 * a * y3 + N2 * b * x3) * (1 + d * (x1 * (M1 * c) * y1 * (M2 * e))) = (N1 * B * y3 + N2 * A * x3) * (C * E + d * (M1 * M2) * (x1 * y1)) * (a * b * c * e) := by grind
  have e2 : (x1 * (M2 * e) + y1 * (M1 * c)) * (1 + d * (N1 * a * x3 * (N2 * b) * y3)) = (x1 * M2 * C + y1 * M1 * E) * (A * B + d * (N1 * N2) * (x3 * y3)) * (a * b * c * e) := by grind
  rw [e1, e2, h]
theorem g_ay (d x1 y1 x3 y3 N1 N2 M1 M2 A B C E a b c e : R) (hA : A * a = 1) (hB : B * b = 1) (hC : C * c = 1) (hE : E * e = 1)
    (h : (N2 * A * y3 + N1 * B * x3) * (C * E - d * (M1 * M2) * (x1 * y1)) = (y1 * M2 * C + x1 * M1 * E) * (A * B - d * (N1 * N2) * (x3 * y3))) :
    (N2 * b * y3 + N1 * a * x3) * (1 - d * (x1 * (M1 * c) * y1 * (M2 * e))) = (y1 * (M2 * e) + x1 * (M1 * c)) * (1 - d * (N1 * a * x3 * (N2 * b) * y3)) := by
  have e1 : (N2 * b * y3 + N1 * a * x3) * (1 - d * (x1 * (M1 * c) * y1 * (M2 * e))) = (N2 * A * y3 + N1 * B * x3) * (C * E - d * (M1 * M2) * (x1 * y1)) * (a * b * c * e) := by grind
  have e2 : (y1 * (M2 * e) + x1 * (M1 * c)) * (1 - d * (N1 * a * x3 * (N2 * b) * y3)) = (y1 * M2 * C + x1 * M1 * E) * (A * B - d * (N1 * N2) * (x3 * y3)) * (a * b * c * e) := by grind
  rw [e1, e2, h]
theorem g_10 : (1 : R) + 0 = 1 := by grind
theorem g_m0 : (1 : R) - 0 = 1 := by grind
theorem g_div (u v P Q p q : R) (hP : P * p = 1) (hQ : Q * q = 1) (h : u * Q = v * P) : u * p = v * q := by grind
end

abbrev Fp := Fin pp
def fi (a : Fp) : Fp := cf (inv a.val)
theorem cf_one : cf 1 = 1 := rfl
theorem fi_mul {a : Fp} (h : a ≠ 0) : a * fi a = 1 := by
  have h1 := inv_mul a.isLt (fun e => h (Fin.ext e))
  have h2 : cf (mu a.val (inv a.val)) = cf 1 := congrArg cf h1
  rw [cf_mu, cf_val] at h2
  exact h2
theorem fi_one : fi 1 = 1 := by have := fi_mul fin_10; grind
def dF : Fp := cf dN
def OC (p : Fp × Fp) : Prop := p.2 * p.2 - p.1 * p.1 = 1 + dF * (p.1 * p.1 * p.2 * p.2)
def pd (p q : Fp × Fp) : Fp := dF * (p.1 * q.1 * p.2 * q.2)
def pa (p q : Fp × Fp) : Fp × Fp := ((p.1 * q.2 + p.2 * q.1) * fi (1 + pd p q), (p.2 * q.2 + p.1 * q.1) * fi (1 - pd p q))
def pO : Fp × Fp := (0, 1)
def pn (p : Fp × Fp) : Fp × Fp := (-p.1, p.2)
theorem oc_O : OC pO := by unfold OC pO; grind
theorem oc_n {p : Fp × Fp} (h : OC p) : OC (pn p) := by unfold OC pn at *; grind
theorem pd_n1 {p q : Fp × Fp} (hp : OC p) (hq : OC q) : 1 + pd p q ≠ 0 := fun h => fin_den (e := -1) (by grind) hp hq (by unfold pd dF at h; grind)
theorem pd_n2 {p q : Fp × Fp} (hp : OC p) (hq : OC q) : 1 - pd p q ≠ 0 := fun h => fin_den (e := 1) (by grind) hp hq (by unfold pd dF at h; grind)
theorem pa_oc {p q : Fp × Fp} (hp : OC p) (hq : OC q) : OC (pa p q) := by
  have h := closure_e dF p.1 p.2 q.1 q.2 hp hq
  exact g_close dF _ _ _ _ _ _ (fi_mul (pd_n1 hp hq)) (fi_mul (pd_n2 hp hq)) h
theorem pa_comm (p q : Fp × Fp) : pa p q = pa q p := by
  have e : pd p q = pd q p := by unfold pd; grind
  unfold pa
  rw [e]
  refine Prod.ext ?_ ?_
  · show _ * fi _ = _ * fi _
    congr 1; grind
  · show _ * fi _ = _ * fi _
    congr 1; grind
theorem pa_assoc {p q r : Fp × Fp} (hp : OC p) (hq : OC q) (hr : OC r) : pa (pa p q) r = pa p (pa q r) := by
  have A := fi_mul (pd_n1 hp hq)
  have B := fi_mul (pd_n2 hp hq)
  have C := fi_mul (pd_n1 hq hr)
  have E := fi_mul (pd_n2 hq hr)
  have P1 := fi_mul (pd_n1 (pa_oc hp hq) hr)
  have P2 := fi_mul (pd_n2 (pa_oc hp hq) hr)
  have Q1 := fi_mul (pd_n1 hp (pa_oc hq hr))
  have Q2 := fi_mul (pd_n2 hp (pa_oc hq hr))
  refine Prod.ext ?_ ?_
  · exact g_div _ _ _ _ _ _ P1 Q1 (g_ax dF p.1 p.2 r.1 r.2 _ _ _ _ _ _ _ _ _ _ _ _ A B C E (assoc_x dF p.1 p.2 q.1 q.2 r.1 r.2 hp hq hr))
  · exact g_div _ _ _ _ _ _ P2 Q2 (g_ay dF p.1 p.2 r.1 r.2 _ _ _ _ _ _ _ _ _ _ _ _ A B C E (assoc_y dF p.1 p.2 q.1 q.2 r.1 r.2 hp hq hr))
theorem pa_O (p : Fp × Fp) : pa p pO = p := by
  have e : pd p pO = 0 := by unfold pd pO; grind
  unfold pa
  rw [e]
  refine Prod.ext ?_ ?_
  · show (p.1 * 1 + p.2 * 0) * fi (1 + 0) = p.1
    rw [g_10 (R := Fp), fi_one]; grind
  · show (p.2 * 1 + p.1 * 0) * fi (1 - 0) = p.2
    rw [g_m0 (R := Fp), fi_one]; grind
theorem pa_n {p : Fp × Fp} (hp : OC p) : pa p (pn p) = pO := by
  have B := fi_mul (pd_n2 hp (oc_n hp))
  have h := hp
  unfold OC at h
  refine Prod.ext ?_ ?_
  · show (p.1 * p.2 + p.2 * -p.1) * fi _ = 0
    grind
  · show (p.2 * p.2 + p.1 * -p.1) * fi (1 - pd p (pn p)) = 1
    have e : p.2 * p.2 + p.1 * -p.1 = 1 - pd p (pn p) := by unfold pd pn; grind
    rw [e]; exact B

def mt : Nat → Fp × Fp → Fp × Fp
  | 0, _ => pO
  | k + 1, p => pa (mt k p) p
theorem mt_oc {p : Fp × Fp} (hp : OC p) : ∀ k, OC (mt k p)
  | 0 => oc_O
  | k + 1 => pa_oc (mt_oc hp k) hp
theorem mt_add {p : Fp × Fp} (hp : OC p) (j : Nat) : ∀ k, pa (mt j p) (mt k p) = mt (j + k) p
  | 0 => pa_O _
  | k + 1 => by
    show pa (mt j p) (pa (mt k p) p) = pa (mt (j + k) p) p
    rw [← pa_assoc (mt_oc hp j) (mt_oc hp k) hp, mt_add hp j k]
theorem mt_mul {p : Fp × Fp} (hp : OC p) (k : Nat) : ∀ j, mt j (mt k p) = mt (j * k) p
  | 0 => by rw [Nat.zero_mul]; rfl
  | j + 1 => by
    show pa (mt j (mt k p)) (mt k p) = _
    rw [mt_mul hp k j, mt_add hp, Nat.succ_mul]

def Pj (v : Nat × Nat × Nat × Nat) (p : Fp × Fp) : Prop := cf v.2.2.1 ≠ 0 ∧ cf v.1 = p.1 * cf v.2.2.1 ∧ cf v.2.1 = p.2 * cf v.2.2.1 ∧ cf v.2.2.2 = p.1 * p.2 * cf v.2.2.1
def Gd (v : Nat × Nat × Nat × Nat) : Prop := v.1 < pp ∧ v.2.1 < pp ∧ v.2.2.1 < pp ∧ v.2.2.2 < pp
section
variable {R : Type} [Lean.Grind.CommRing R]
theorem g_sX (d x1 y1 z1 x2 y2 z2 A B a : R) (hA : A * a = 1) (eA : A = 1 + d * (x1 * x2 * y1 * y2)) (_eB : B = 1 - d * (x1 * x2 * y1 * y2)) :
    ((y1 * z1 + x1 * z1) * (y2 * z2 + x2 * z2) - (y1 * z1 - x1 * z1) * (y2 * z2 - x2 * z2)) * ((z1 * z2 + z1 * z2) - (x1 * y1 * z1 * (x2 * y2 * z2) * d + x1 * y1 * z1 * (x2 * y2 * z2) * d)) =
    (x1 * y2 + y1 * x2) * a * (((z1 * z2 + z1 * z2) + (x1 * y1 * z1 * (x2 * y2 * z2) * d + x1 * y1 * z1 * (x2 * y2 * z2) * d)) * ((z1 * z2 + z1 * z2) - (x1 * y1 * z1 * (x2 * y2 * z2) * d + x1 * y1 * z1 * (x2 * y2 * z2) * d))) := by
  have e1 : (z1 * z2 + z1 * z2) + (x1 * y1 * z1 * (x2 * y2 * z2) * d + x1 * y1 * z1 * (x2 * y2 * z2) * d) = (z1 * z2 + z1 * z2) * A := by grind
  rw [e1]; grind
theorem g_sY (d x1 y1 z1 x2 y2 z2 A B b : R) (hB : B * b = 1) (_eA : A = 1 + d * (x1 * x2 * y1 * y2)) (eB : B = 1 - d * (x1 * x2 * y1 * y2)) :
    ((y1 * z1 + x1 * z1) * (y2 * z2 + x2 * z2) + (y1 * z1 - x1 * z1) * (y2 * z2 - x2 * z2)) * ((z1 * z2 + z1 * z2) + (x1 * y1 * z1 * (x2 * y2 * z2) * d + x1 * y1 * z1 * (x2 * y2 * z2) * d)) =
    (y1 * y2 + x1 * x2) * b * (((z1 * z2 + z1 * z2) + (x1 * y1 * z1 * (x2 * y2 * z2) * d + x1 * y1 * z1 * (x2 * y2 * z2) * d)) * ((z1 * z2 + z1 * z2) - (x1 * y1 * z1 * (x2 * y2 * z2) * d + x1 * y1 * z1 * (x2 * y2 * z2) * d))) := by
  have e1 : (z1 * z2 + z1 * z2) - (x1 * y1 * z1 * (x2 * y2 * z2) * d + x1 * y1 * z1 * (x2 * y2 * z2) * d) = (z1 * z2 + z1 * z2) * B := by grind
  rw [e1]; grind
theorem g_sT (d x1 y1 z1 x2 y2 z2 A B a b : R) (hA : A * a = 1) (hB : B * b = 1) (eA : A = 1 + d * (x1 * x2 * y1 * y2)) (eB : B = 1 - d * (x1 * x2 * y1 * y2)) :
    ((y1 * z1 + x1 * z1) * (y2 * z2 + x2 * z2) - (y1 * z1 - x1 * z1) * (y2 * z2 - x2 * z2)) * ((y1 * z1 + x1 * z1) * (y2 * z2 + x2 * z2) + (y1 * z1 - x1 * z1) * (y2 * z2 - x2 * z2)) =
    (x1 * y2 + y1 * x2) * a * ((y1 * y2 + x1 * x2) * b) * (((z1 * z2 + z1 * z2) + (x1 * y1 * z1 * (x2 * y2 * z2) * d + x1 * y1 * z1 * (x2 * y2 * z2) * d)) * ((z1 * z2 + z1 * z2) - (x1 * y1 * z1 * (x2 * y2 * z2) * d + x1 * y1 * z1 * (x2 * y2 * z2) * d))) := by
  have e1 : (z1 * z2 + z1 * z2) + (x1 * y1 * z1 * (x2 * y2 * z2) * d + x1 * y1 * z1 * (x2 * y2 * z2) * d) = (z1 * z2 + z1 * z2) * A := by grind
  have e2 : (z1 * z2 + z1 * z2) - (x1 * y1 * z1 * (x2 * y2 * z2) * d + x1 * y1 * z1 * (x2 * y2 * z2) * d) = (z1 * z2 + z1 * z2) * B := by grind
  rw [e1, e2]
  have e3 : (x1 * y2 + y1 * x2) * a * ((y1 * y2 + x1 * x2) * b) * ((z1 * z2 + z1 * z2) * A * ((z1 * z2 + z1 * z2) * B)) = (x1 * y2 + y1 * x2) * (y1 * y2 + x1 * x2) * ((z1 * z2 + z1 * z2) * (z1 * z2 + z1 * z2)) * ((A * a) * (B * b)) := by grind
  rw [e3, hA, hB]; grind
theorem g_rX (d x1 y1 z1 x2 y2 z2 A B a : R) (hA : A * a = 1) (eA : A = 1 + d * (x1 * x2 * y1 * y2)) (_eB : B = 1 - d * (x1 * x2 * y1 * y2)) :
    (x1 * z1 * (y2 * z2) + y1 * z1 * (x2 * z2)) * (z1 * z2 - d * (x1 * y1 * z1 * (x2 * y2 * z2))) = (x1 * y2 + y1 * x2) * a * ((z1 * z2 - d * (x1 * y1 * z1 * (x2 * y2 * z2))) * (z1 * z2 + d * (x1 * y1 * z1 * (x2 * y2 * z2)))) := by
  have e1 : z1 * z2 + d * (x1 * y1 * z1 * (x2 * y2 * z2)) = z1 * z2 * A := by grind
  rw [e1]; grind
theorem g_rY (d x1 y1 z1 x2 y2 z2 A B b : R) (hB : B * b = 1) (_eA : A = 1 + d * (x1 * x2 * y1 * y2)) (eB : B = 1 - d * (x1 * x2 * y1 * y2)) :
    (z1 * z2 + d * (x1 * y1 * z1 * (x2 * y2 * z2))) * (y1 * z1 * (y2 * z2) + x1 * z1 * (x2 * z2)) = (y1 * y2 + x1 * x2) * b * ((z1 * z2 - d * (x1 * y1 * z1 * (x2 * y2 * z2))) * (z1 * z2 + d * (x1 * y1 * z1 * (x2 * y2 * z2)))) := by
  have e1 : z1 * z2 - d * (x1 * y1 * z1 * (x2 * y2 * z2)) = z1 * z2 * B := by grind
  rw [e1]; grind
theorem g_rT (d x1 y1 z1 x2 y2 z2 A B a b : R) (hA : A * a = 1) (hB : B * b = 1) (eA : A = 1 + d * (x1 * x2 * y1 * y2)) (eB : B = 1 - d * (x1 * x2 * y1 * y2)) :
    (x1 * z1 * (y2 * z2) + y1 * z1 * (x2 * z2)) * (y1 * z1 * (y2 * z2) + x1 * z1 * (x2 * z2)) = (x1 * y2 + y1 * x2) * a * ((y1 * y2 + x1 * x2) * b) * ((z1 * z2 - d * (x1 * y1 * z1 * (x2 * y2 * z2))) * (z1 * z2 + d * (x1 * y1 * z1 * (x2 * y2 * z2)))) := by
  have e1 : z1 * z2 + d * (x1 * y1 * z1 * (x2 * y2 * z2)) = z1 * z2 * A := by grind
  have e2 : z1 * z2 - d * (x1 * y1 * z1 * (x2 * y2 * z2)) = z1 * z2 * B := by grind
  rw [e1, e2]
  have e3 : (x1 * y2 + y1 * x2) * a * ((y1 * y2 + x1 * x2) * b) * (z1 * z2 * B * (z1 * z2 * A)) = (x1 * y2 + y1 * x2) * (y1 * y2 + x1 * x2) * (z1 * z2 * (z1 * z2)) * ((A * a) * (B * b)) := by grind
  rw [e3, hA, hB]; grind
theorem g_z1 (d x1 y1 z1 x2 y2 z2 : R) : (z1 * z2 + z1 * z2) + (x1 * y1 * z1 * (x2 * y2 * z2) * d + x1 * y1 * z1 * (x2 * y2 * z2) * d) = (1 + d * (x1 * x2 * y1 * y2)) * (z1 * z2 + z1 * z2) := by grind
theorem g_z2 (d x1 y1 z1 x2 y2 z2 : R) : (z1 * z2 + z1 * z2) - (x1 * y1 * z1 * (x2 * y2 * z2) * d + x1 * y1 * z1 * (x2 * y2 * z2) * d) = (1 - d * (x1 * x2 * y1 * y2)) * (z1 * z2 + z1 * z2) := by grind
theorem g_z3 (d x1 y1 z1 x2 y2 z2 : R) : z1 * z2 + d * (x1 * y1 * z1 * (x2 * y2 * z2)) = (1 + d * (x1 * x2 * y1 * y2)) * (z1 * z2) := by grind
theorem g_z4 (d x1 y1 z1 x2 y2 z2 : R) : z1 * z2 - d * (x1 * y1 * z1 * (x2 * y2 * z2)) = (1 - d * (x1 * x2 * y1 * y2)) * (z1 * z2) := by grind
end
theorem fin_mul_ne {a b : Fp} (ha : a ≠ 0) (hb : b ≠ 0) : a * b ≠ 0 := fun h => (fin_nzd a b h).elim ha hb
def sumS (v u : Nat × Nat × Nat × Nat) : Nat × Nat × Nat × Nat :=
  (mu (sb (mu (ad v.2.1 v.1) (ad u.2.1 u.1)) (mu (sb v.2.1 v.1) (sb u.2.1 u.1))) (sb (ad (mu v.2.2.1 u.2.2.1) (mu v.2.2.1 u.2.2.1)) (ad (mu (mu v.2.2.2 u.2.2.2) dN) (mu (mu v.2.2.2 u.2.2.2) dN))),
   mu (ad (mu (ad v.2.1 v.1) (ad u.2.1 u.1)) (mu (sb v.2.1 v.1) (sb u.2.1 u.1))) (ad (ad (mu v.2.2.1 u.2.2.1) (mu v.2.2.1 u.2.2.1)) (ad (mu (mu v.2.2.2 u.2.2.2) dN) (mu (mu v.2.2.2 u.2.2.2) dN))),
   mu (ad (ad (mu v.2.2.1 u.2.2.1) (mu v.2.2.1 u.2.2.1)) (ad (mu (mu v.2.2.2 u.2.2.2) dN) (mu (mu v.2.2.2 u.2.2.2) dN))) (sb (ad (mu v.2.2.1 u.2.2.1) (mu v.2.2.1 u.2.2.1)) (ad (mu (mu v.2.2.2 u.2.2.2) dN) (mu (mu v.2.2.2 u.2.2.2) dN))),
   mu (sb (mu (ad v.2.1 v.1) (ad u.2.1 u.1)) (mu (sb v.2.1 v.1) (sb u.2.1 u.1))) (ad (mu (ad v.2.1 v.1) (ad u.2.1 u.1)) (mu (sb v.2.1 v.1) (sb u.2.1 u.1))))
theorem sumS_gd (v u : Nat × Nat × Nat × Nat) : Gd (sumS v u) := ⟨mu_lt _ _, mu_lt _ _, mu_lt _ _, mu_lt _ _⟩
theorem sumS_pj {v u : Nat × Nat × Nat × Nat} {p q : Fp × Fp} (gv : Gd v) (gu : Gd u) (hp : OC p) (hq : OC q) (hv : Pj v p) (hu : Pj u q) : Pj (sumS v u) (pa p q) := by
  obtain ⟨nz1, e1, e2, e3⟩ := hv
  obtain ⟨nz2, e4, e5, e6⟩ := hu
  have A := fi_mul (pd_n1 hp hq)
  have B := fi_mul (pd_n2 hp hq)
  have two : cf v.2.2.1 * cf u.2.2.1 + cf v.2.2.1 * cf u.2.2.1 ≠ 0 := fun h => fin_mul_ne nz1 nz2 (fin_20 _ h)
  unfold Pj sumS
  simp only [cf_mu, cf_ad, cf_sb gv.1, cf_sb gu.1, cf_sb (mu_lt _ _), cf_sb (ad_lt _ _), e1, e2, e3, e4, e5, e6]
  refine ⟨?_, ?_, ?_, ?_⟩
  · rw [g_z1, g_z2]
    exact fin_mul_ne (fin_mul_ne (pd_n1 hp hq) two) (fin_mul_ne (pd_n2 hp hq) two)
  · exact g_sX (cf dN) p.1 p.2 _ q.1 q.2 _ _ _ _ A rfl rfl
  · exact g_sY (cf dN) p.1 p.2 _ q.1 q.2 _ _ _ _ B rfl rfl
  · exact g_sT (cf dN) p.1 p.2 _ q.1 q.2 _ _ _ _ _ A B rfl rfl
def sumR (v u : Nat × Nat × Nat × Nat) : Nat × Nat × Nat × Nat :=
  (mu (ad (mu v.1 u.2.1) (mu v.2.1 u.1)) (sb (mu v.2.2.1 u.2.2.1) (mu dN (mu v.2.2.2 u.2.2.2))),
   mu (ad (mu v.2.2.1 u.2.2.1) (mu dN (mu v.2.2.2 u.2.2.2))) (ad (mu v.2.1 u.2.1) (mu v.1 u.1)),
   mu (sb (mu v.2.2.1 u.2.2.1) (mu dN (mu v.2.2.2 u.2.2.2))) (ad (mu v.2.2.1 u.2.2.1) (mu dN (mu v.2.2.2 u.2.2.2))),
   mu (ad (mu v.1 u.2.1) (mu v.2.1 u.1)) (ad (mu v.2.1 u.2.1) (mu v.1 u.1)))
theorem sumR_gd (v u : Nat × Nat × Nat × Nat) : Gd (sumR v u) := ⟨mu_lt _ _, mu_lt _ _, mu_lt _ _, mu_lt _ _⟩
theorem sumR_pj {v u : Nat × Nat × Nat × Nat} {p q : Fp × Fp} (hp : OC p) (hq : OC q) (hv : Pj v p) (hu : Pj u q) : Pj (sumR v u) (pa p q) := by
  obtain ⟨nz1, e1, e2, e3⟩ := hv
  obtain ⟨nz2, e4, e5, e6⟩ := hu
  have A := fi_mul (pd_n1 hp hq)
  have B := fi_mul (pd_n2 hp hq)
  have two := fin_mul_ne nz1 nz2
  unfold Pj sumR
  simp only [cf_mu, cf_ad, cf_sb (mu_lt _ _), e1, e2, e3, e4, e5, e6]
  refine ⟨?_, ?_, ?_, ?_⟩
  · rw [g_z3, g_z4]
    exact fin_mul_ne (fin_mul_ne (pd_n2 hp hq) two) (fin_mul_ne (pd_n1 hp hq) two)
  · exact g_rX (cf dN) p.1 p.2 _ q.1 q.2 _ _ _ _ A rfl rfl
  · exact g_rY (cf dN) p.1 p.2 _ q.1 q.2 _ _ _ _ B rfl rfl
  · exact g_rT (cf dN) p.1 p.2 _ q.1 q.2 _ _ _ _ _ A B rfl rfl
end Go.Proofs.YtacokkedomjgpaaGreatDoor

namespace Go.Proofs.YtacokkedomjgpaaGreatDoor
open Go.RowKit

def nbv (f : Nat → Nat) : Nat → Nat
  | 0 => 0
  | k + 1 => nbv f k + f k * 256 ^ k
theorem nbv_lt {f : Nat → Nat} (hf : ∀ i, f i < 256) : ∀ k, nbv f k < 256 ^ k
  | 0 => by show 0 < 1; omega
  | k + 1 => by
    have h1 := nbv_lt hf k
    have h2 := hf k
    have h3 : f k * 256 ^ k ≤ 255 * 256 ^ k := Nat.mul_le_mul_right _ (by omega)
    show nbv f k + f k * 256 ^ k < 256 ^ (k + 1)
    rw [Nat.pow_succ]; omega
theorem nbv_byte {f : Nat → Nat} (hf : ∀ i, f i < 256) : ∀ k i, i < k → nbv f k / 256 ^ i % 256 = f i
  | 0, _, h => by omega
  | k + 1, i, h => by
    show (nbv f k + f k * 256 ^ k) / 256 ^ i % 256 = f i
    have h1 := nbv_lt hf k
    have hp : 0 < 256 ^ i := Nat.pow_pos (by omega)
    by_cases e : i = k
    · subst e
      rw [Nat.add_mul_div_right _ _ hp, Nat.div_eq_of_lt h1, Nat.zero_add, Nat.mod_eq_of_lt (hf i)]
    · have e2 : f k * 256 ^ k = f k * 256 ^ (k - i - 1) * 256 * 256 ^ i := by
        rw [Nat.mul_assoc, Nat.mul_assoc, Nat.mul_comm 256, ← Nat.pow_succ, ← Nat.pow_add, show k - i - 1 + (i + 1) = k by omega]
      rw [e2, Nat.add_mul_div_right _ _ hp, Nat.add_mul_mod_self_right]
      exact nbv_byte hf k i (by omega)
theorem fg_nb {f : Nat → Nat} (hf : ∀ i, f i < 256) (k j : Nat) (h : j < 8 * k) : fg f j = nbv f k / 2 ^ j % 2 := by
  unfold fg
  rw [← nbv_byte hf k (j / 8) (by omega)]
  have e : 2 ^ j = 256 ^ (j / 8) * 2 ^ (j % 8) := by
    rw [show (256 : Nat) = 2 ^ 8 from rfl, ← Nat.pow_mul, ← Nat.pow_add]; congr 1; omega
  rw [e, ← Nat.div_div_eq_div_mul]
  generalize nbv f k / 256 ^ (j / 8) = m
  have hr : j % 8 < 8 := Nat.mod_lt _ (by omega)
  generalize j % 8 = r at hr
  obtain rfl | rfl | rfl | rfl | rfl | rfl | rfl | rfl : r = 0 ∨ r = 1 ∨ r = 2 ∨ r = 3 ∨ r = 4 ∨ r = 5 ∨ r = 6 ∨ r = 7 := by omega
  all_goals omega
def stN (s x : Nat) : Nat := if x = 1 then s + s + 1 else s + s
theorem tops_nb {f : Nat → Nat} (hf : ∀ i, f i < 256) (n : Nat) : ∀ k, k ≤ 8 * n → (tops f (8 * n) k).foldl stN 0 = nbv f n / 2 ^ (8 * n - k)
  | 0, _ => by
    have h := nbv_lt hf n
    rw [show (256 : Nat) = 2 ^ 8 from rfl, ← Nat.pow_mul] at h
    show 0 = _
    rw [Nat.sub_zero, Nat.div_eq_of_lt h]
  | k + 1, h => by
    rw [tops_succ, List.foldl_append, tops_nb hf n k (by omega), fg_nb hf n _ (by omega)]
    show stN _ _ = _
    have e : 8 * n - k = (8 * n - 1 - k) + 1 := by omega
    have e2 : 8 * n - (k + 1) = 8 * n - 1 - k := by omega
    rw [e, e2, Nat.pow_succ, ← Nat.div_div_eq_div_mul]
    generalize nbv f n / 2 ^ (8 * n - 1 - k) = m
    unfold stN
    split <;> omega
theorem tops_all {f : Nat → Nat} (hf : ∀ i, f i < 256) (n : Nat) : (tops f (8 * n) (8 * n)).foldl stN 0 = nbv f n := by
  rw [tops_nb hf n _ (Nat.le_refl _), Nat.sub_self]; simp
theorem fldM_rel {α : Type} {add : α → α → α} {no one : α} {p : Fp × Fp} (hp : OC p) {Rl : α → Fp × Fp → Prop} (ha : ∀ u v q r, OC q → OC r → Rl u q → Rl v r → Rl (add u v) (pa q r)) (h0 : Rl no pO) (h1 : Rl one p) (l : List Nat) : Rl (fldM add no one l) (mt (l.foldl stN 0) p) := by
  suffices h : ∀ (l : List Nat) (s : α) (k : Nat), Rl s (mt k p) → Rl (l.foldl (stepM add one) s) (mt (l.foldl stN k) p) from h l no 0 h0
  intro l
  induction l with
  | nil => intro s k h; exact h
  | cons x r ih =>
    intro s k h
    have hk := mt_oc hp k
    have h2 := ha s s _ _ hk hk h h
    rw [mt_add hp] at h2
    refine ih _ _ ?_
    unfold stepM stN
    split
    · exact ha _ _ _ _ (mt_oc hp _) hp h2 h1
    · exact h2
end Go.Proofs.YtacokkedomjgpaaGreatDoor

namespace Go.Proofs.YtacokkedomjgpaaGreatDoor
open Go.RowKit Go.Shelf
theorem eq_u8s {x u : Operand} {m n : Nat} {b : Bool} (h : decide (m = n) = b) (w : World) : (do eqGuard .eql 5 x u (.int .u8 (m : Nat)) (.int .u8 (n : Nat)); binOp .eql 5 (.int .u8 (m : Nat)) (.int .u8 (n : Nat))).run Tryz.prog w = .ok (.bool b) w := by
  have h1 : decide (((m : Nat) : Int) = ((n : Nat) : Int)) = b := by rw [← h]; congr 1; exact propext Int.natCast_inj
  subst h1; simp [eqGuard, binOp, go_sem]; rfl
theorem ld_fnsh (w : World) (q : Nat) (h : w.heap[q]? = some (.cells #[.func (.func 48) #[.agg (ces [dN])] #[]] 81 (0, 0))) : (Instr.loadAt 81 (.pointer (some ⟨q, 0, none⟩))).run Tryz.prog w = .ok (.func (.func 48) #[.agg (ces [dN])] #[]) w := by
  have h1 : w.cell? ⟨q, 0, none⟩ = some (.func (.func 48) #[.agg (ces [dN])] #[]) := by rw [cell_of_row _ _ _ _ _ _ h]; rfl
  simp [Instr.loadAt, Instr.sureAddr, go_sem, h1]
theorem bx_fnsh (w : World) : (Instr.box 81 (.func (.func 48) #[.agg (ces [dN])] #[])).run Tryz.prog w = .ok (.pointer (some ⟨w.heap.size, 0, none⟩)) (w.alloc (.cells #[.func (.func 48) #[.agg (ces [dN])] #[]] 81)) := by
  simp [Instr.box, go_sem]
set_option maxRecDepth 100000 in
set_option maxHeartbeats 4000000 in
theorem many_sh {α : Type} {Vl : α → Array Value} {G : α → Prop} {add : α → α → α} {zc0 : Array Value} (hsz : ∀ x, (Tryz.prog.info? 78).map (·.size) = some (Vl x).size) (hss : ∀ x y, (Vl x).size = (Vl y).size) (hzs : ∀ y, zc0.size = (Vl y).size) (hone : ∀ x, (Vl x).all (·.oneCell') = true)
    (hal : ∀ w : World, (Instr.alloc 78 true (.tuple #[])).run Tryz.prog w = .ok (.pointer (some ⟨w.heap.size, 0, none⟩)) (w.alloc (.cells zc0 78))) (hG : ∀ x y, G x → G y → G (add x y)) (hplus : ∀ x y, G x → G y → ∀ w, Calls Tryz.prog 48 #[.agg (ces [dN]), .agg (Vl x), .agg (Vl y)] w fun e w' => e = .returned (.agg (Vl (add x y))) ∧ Below w.heap.size w w')
    {no one : α} (h0 : G no) (h1 : G one) {aa : Option Addr} {len cap : Nat} {f : Nat → Nat} (hm : len ≤ 1000) (W0 : World) (hb : Bs W0 aa len f) :
    Calls Tryz.prog 45 #[.slice aa len cap, .agg (Vl no), .agg (Vl one), .func (.func 48) #[.agg (ces [dN])] #[]] W0 fun e w' => e = .returned (.agg (Vl (fldM add no one (tops f (8 * len) (8 * len))))) ∧ Below W0.heap.size W0 w' := by
  refine s_im Tryz.func45 Tryz.ntmps45 rfl [.inl (.slice aa len cap), .inl (.agg (Vl no)), .inl (.agg (Vl one)), .inl (.func (.func 48) #[.agg (ces [dN])] #[])] ?_
  intro β a h
  refine sym_seq ?_
  refine St.rg h [(5, .inr (0, pt 0)), (6, .inr (1, pt 0)), (7, .inr (2, pt 0)), (8, .inr (3, pt 0))] [(Vl no, 78), (Vl one, 78), (#[.func (.func 48) #[.agg (ces [dN])] #[]], 81), (zc0, 78)] [] [eN 0, eN 1, eN 2, eN 3] ?_ ?_
  · exact oc (k_bx 0 (.agg (Vl no)) bx_agg rfl rfl) <|
    oc (k_bx 1 (.agg (Vl one)) bx_agg rfl rfl) <|
    oc (k_bx 2 (.func (.func 48) #[.agg (ces [dN])] #[]) bx_fnsh rfl rfl) <|
    oc (k_al 3 hal rfl rfl) <|
    ok_nil
  clear h; intro β a w h
  refine sym_then ?_
  refine sym_seq ?_
  refine St.rg h [(11, .inl (.agg (Vl no))), (9, .inr (4, pt 0))] [(zc0, 78)] [(4, Vl no)] [eR 0, eN 4, eS 4] ?_ ?_
  · exact oc (k_ld 0 0 (.agg (Vl no)) (c := Vl no) (ld_row (t0 := 78) Tryz.underlying78 rfl (hsz no)) rfl rfl) <|
    oc (k_al 4 hal rfl rfl) <|
    oc (k_st 4 0 (.agg (Vl no)) (c := zc0) (n := Vl no) (st_row (t0 := 78) (hsz no) (hzs _) (hone no)) rfl rfl) <|
    ok_nil
  clear h; intro β a w h
  refine sym_then ?_
  replace h := St.cs h (s' := [.inl (.slice aa len cap), .inl (.agg (Vl no)), .inl (.agg (Vl one)), .inl (.func (.func 48) #[.agg (ces [dN])] #[]), uu, .inr (0, pt 0), .inr (1, pt 0), .inr (2, pt 0), .inr (3, pt 0), .inr (4, pt 0), uu, .inl (.agg (Vl no)), uu, uu, uu, uu, uu, uu, uu, uu, uu, uu, uu, uu, uu, uu]) (m' := [(Vl no, 78), (Vl one, 78), (#[.func (.func 48) #[.agg (ces [dN])] #[]], 81), (zc0, 78), (Vl no, 78)]) (by kernel_rfl) (by kernel_rfl)
  have hS : ∀ pre, G (fldM add no one pre) := fldM_good hG h0 h1
  refine sym_seq ?_
  refine sym_seq ?_
  refine rg_call2 (t := 0) (d1 := 12) (d2 := 13) (f := 84) (v := .slice aa len cap) (h.eval (by kernel_rfl) (by kernel_rfl)) rfl rfl rfl rfl rfl rfl (by rw [h.tm]; simp) (fun w => by kernel_rfl) ((figures_d aa len cap f _ (hb.later h.bel.below) hm).mono ?_)
  rintro e w2 ⟨p, g, rfl, hp1, hg1, hpc, ⟨og, hgo, hgc⟩, hgi, hb2⟩
  refine ⟨_, rfl, ?_⟩
  have h2 := h.after hb2 [.inl (.slice aa len cap), .inl (.agg (Vl no)), .inl (.agg (Vl one)), .inl (.func (.func 48) #[.agg (ces [dN])] #[]), uu, .inr (0, pt 0), .inr (1, pt 0), .inr (2, pt 0), .inr (3, pt 0), .inr (4, pt 0), uu, .inl (.agg (Vl no)), .inl (.slice aa len cap), .inl (.func (.func 102) #[] #[.pointer (some ⟨p, 0, none⟩)]), uu, uu, uu, uu, uu, uu, uu, uu, uu, uu, uu, uu] (by kernel_rfl)
  have ea : ((a.put (some 12) (.slice aa len cap)).put (some 13) (.func (.func 102) #[] #[.pointer (some ⟨p, 0, none⟩)])) = { tmps := ([.inl (.slice aa len cap), .inl (.agg (Vl no)), .inl (.agg (Vl one)), .inl (.func (.func 48) #[.agg (ces [dN])] #[]), uu, .inr (0, pt 0), .inr (1, pt 0), .inr (2, pt 0), .inr (3, pt 0), .inr (4, pt 0), uu, .inl (.agg (Vl no)), .inl (.slice aa len cap), .inl (.func (.func 102) #[] #[.pointer (some ⟨p, 0, none⟩)]), uu, uu, uu, uu, uu, uu, uu, uu, uu, uu, uu, uu].map (den β)).toArray, defers := [] } := by rw [h.tm]; kernel_rfl
  rw [ea]
  have hpl : p < w2.heap.size := cell_lt hpc
  have hgl : g < w2.heap.size := (Array.getElem?_eq_some_iff.1 hgo).1
  have hbl : ∀ b, b < 5 → β b < w.heap.size := fun b hb' => by
    have h5 := h.row b _ (List.getElem?_eq_getElem (by simpa using hb'))
    exact (Array.getElem?_eq_some_iff.1 h5).1
  have hne : ∀ x, w.heap.size ≤ x → ∀ b, b < 5 → x ≠ β b := fun x hx b hb' => by have := hbl b hb'; omega
  clear ea
  refine sym_then ?_
  refine wp_block ((wpIn_wide (n := 5)).1 ?_)
  refine wpIn_rangeFunc_ownF (F := Fence.wide) (n := 5) rfl (by decide) (gf := 102) (lb := #[.pointer (some ⟨p, 0, none⟩)]) (by kernel_rfl) trivial (enters_of Tryz.func102 (by kernel_rfl) rfl) (figs_stops p g len f hb.1 hm w2 hpc hgi) two_t (two_b hpl hgl) (Below.refl _ _) (fun _ => rfl)
    (fun pre v => St (wd W0) [.inl (.slice aa len cap), .inl (.agg (Vl no)), .inl (.agg (Vl one)), .inl (.func (.func 48) #[.agg (ces [dN])] #[]), uu, .inr (0, pt 0), .inr (1, pt 0), .inr (2, pt 0), .inr (3, pt 0), .inr (4, pt 0), uu, .inl (.agg (Vl no)), .inl (.slice aa len cap), .inl (.func (.func 102) #[] #[.pointer (some ⟨p, 0, none⟩)]), uu, uu, uu, uu, uu, uu, uu, uu, uu, uu, uu, uu] [(Vl no, 78), (Vl one, 78), (#[.func (.func 48) #[.agg (ces [dN])] #[]], 81), (zc0, 78), (Vl (fldM add no one pre), 78)] β { tmps := ([.inl (.slice aa len cap), .inl (.agg (Vl no)), .inl (.agg (Vl one)), .inl (.func (.func 48) #[.agg (ces [dN])] #[]), uu, .inr (0, pt 0), .inr (1, pt 0), .inr (2, pt 0), .inr (3, pt 0), .inr (4, pt 0), uu, .inl (.agg (Vl no)), .inl (.slice aa len cap), .inl (.func (.func 102) #[] #[.pointer (some ⟨p, 0, none⟩)]), uu, uu, uu, uu, uu, uu, uu, uu, uu, uu, uu, uu].map (den β)).toArray, defers := [] } v ∧ w2.heap.size ≤ v.heap.size) (fun _ _ _ => False)
    (OwnFrom.and (St.own (mm := fun pre => [(Vl no, 78), (Vl one, 78), (#[.func (.func 48) #[.agg (ces [dN])] #[]], 81), (zc0, 78), (Vl (fldM add no one pre), 78)]) (fun k hk => Nat.lt_of_lt_of_le hk h2.bel.size)) (fun _ _ _ _ hs hg _ => Nat.le_trans hs hg.size)) (fun _ _ _ _ _ hs _ _ => hs) ⟨h2, Nat.le_refl _⟩ (fun x => { tmps := ([.inl (.slice aa len cap), .inl (.agg (Vl no)), .inl (.agg (Vl one)), .inl (.func (.func 48) #[.agg (ces [dN])] #[]), uu, .inr (0, pt 0), .inr (1, pt 0), .inr (2, pt 0), .inr (3, pt 0), .inr (4, pt 0), .inl (.int .u8 (x : Nat)), .inl (.agg (Vl no)), .inl (.slice aa len cap), .inl (.func (.func 102) #[] #[.pointer (some ⟨p, 0, none⟩)]), .inl (.int .u8 (x : Nat)), uu, uu, uu, uu, uu, uu, uu, uu, uu, uu, uu].map (den β)).toArray, defers := [] }) ?assign ?body ?done ?stop
  case assign =>
    intro l x v K hK
    refine rg_as (t := 14) (d := 10) (v := .int .u8 (x : Nat)) (by kernel_rfl) rfl rfl rfl ?_
    have e : ∀ z : Act, z = { tmps := ([.inl (.slice aa len cap), .inl (.agg (Vl no)), .inl (.agg (Vl one)), .inl (.func (.func 48) #[.agg (ces [dN])] #[]), uu, .inr (0, pt 0), .inr (1, pt 0), .inr (2, pt 0), .inr (3, pt 0), .inr (4, pt 0), .inl (.int .u8 (x : Nat)), .inl (.agg (Vl no)), .inl (.slice aa len cap), .inl (.func (.func 102) #[] #[.pointer (some ⟨p, 0, none⟩)]), .inl (.int .u8 (x : Nat)), uu, uu, uu, uu, uu, uu, uu, uu, uu, uu, uu].map (den β)).toArray, defers := [] } → K z v := fun z h => h ▸ hK
    exact e _ (by kernel_rfl)
  case body =>
    rintro l pre x v ⟨hI, hvs⟩ hlt
    have hS := hS pre
    generalize hSe : fldM add no one pre = S at hI hS
    have h := hI.round [.inl (.slice aa len cap), .inl (.agg (Vl no)), .inl (.agg (Vl one)), .inl (.func (.func 48) #[.agg (ces [dN])] #[]), uu, .inr (0, pt 0), .inr (1, pt 0), .inr (2, pt 0), .inr (3, pt 0), .inr (4, pt 0), .inl (.int .u8 (x : Nat)), .inl (.agg (Vl no)), .inl (.slice aa len cap), .inl (.func (.func 102) #[] #[.pointer (some ⟨p, 0, none⟩)]), .inl (.int .u8 (x : Nat)), uu, uu, uu, uu, uu, uu, uu, uu, uu, uu, uu] (by kernel_rfl)
    have eb : ∀ c, c < 5 → β c = β c := fun _ _ => rfl
    replace h := h.o0
    by_cases hx : x = 1
    · refine wpIn_block ?_
      refine wpIn_seq ?_
      refine St.rgR h [(15, .inl (.func (.func 48) #[.agg (ces [dN])] #[])), (16, .inl (.agg (Vl S))), (17, .inl (.agg (Vl S))), (18, .inl (.agg (Vl (add S S))))] [] [(4, Vl (add S S))] [eR 2, eR 4, eR 4, nn, eS 4] ?_ ?_
      · exact oc (k_ld 2 0 (.func (.func 48) #[.agg (ces [dN])] #[]) (c := #[.func (.func 48) #[.agg (ces [dN])] #[]]) ld_fnsh rfl rfl) <|
        oc (k_ld 4 0 (.agg (Vl S)) (c := Vl S) (ld_row (t0 := 78) Tryz.underlying78 rfl (hsz S)) rfl rfl) <|
        oc (k_ld 4 0 (.agg (Vl S)) (c := Vl S) (ld_row (t0 := 78) Tryz.underlying78 rfl (hsz S)) rfl rfl) <|
        oc (k_cv #[.agg (ces [dN])] #[.agg (Vl S), .agg (Vl S)] #[.agg (ces [dN]), .agg (Vl S), .agg (Vl S)] (.agg (Vl (add S S))) (hplus _ _ hS hS) rfl rfl) <|
        oc (k_st 4 0 (.agg (Vl (add S S))) (c := Vl S) (n := Vl (add S S)) (st_row (t0 := 78) (hsz (add S S)) (hss _ _) (hone (add S S))) rfl rfl) <|
        ok_nil
      clear h; intro β' a w e h; replace eb := eb_trans (k := 5) e eb; clear e
      refine thenR ?_
      refine wpIn_seq ?_
      refine St.rgR h [(19, .inl (.int .u8 (x : Nat))), (20, .inl (.bool true))] [] [] [] ?_ ?_
      · exact oz (k_mv (.inl rfl) rfl) <|
        oz (k_bi (.int .u8 (x : Nat)) (.int .u8 (1 : Nat)) (.bool true) (eq_u8s (m := x) (n := 1) (decide_eq_true (by omega))) rfl rfl) <|
        ok_nil
      clear h; intro β' a w e h; replace eb := eb_trans (k := 5) e eb; clear e
      refine thenR ?_
      refine s_ctR h ?_
      refine St.rgR h [(21, .inl (.func (.func 48) #[.agg (ces [dN])] #[])), (22, .inl (.agg (Vl (add S S)))), (23, .inl (.agg (Vl one))), (24, .inl (.agg (Vl (add (add S S) one))))] [] [(4, Vl (add (add S S) one))] [eR 2, eR 4, eR 1, nn, eS 4] ?_ ?_
      · exact oc (k_ld 2 0 (.func (.func 48) #[.agg (ces [dN])] #[]) (c := #[.func (.func 48) #[.agg (ces [dN])] #[]]) ld_fnsh rfl rfl) <|
        oc (k_ld 4 0 (.agg (Vl (add S S))) (c := Vl (add S S)) (ld_row (t0 := 78) Tryz.underlying78 rfl (hsz (add S S))) rfl rfl) <|
        oc (k_ld 1 0 (.agg (Vl one)) (c := Vl one) (ld_row (t0 := 78) Tryz.underlying78 rfl (hsz one)) rfl rfl) <|
        oc (k_cv #[.agg (ces [dN])] #[.agg (Vl (add S S)), .agg (Vl one)] #[.agg (ces [dN]), .agg (Vl (add S S)), .agg (Vl one)] (.agg (Vl (add (add S S) one))) (hplus _ _ (hG _ _ hS hS) h1) rfl rfl) <|
        oc (k_st 4 0 (.agg (Vl (add (add S S) one))) (c := Vl (add S S)) (n := Vl (add (add S S) one)) (st_row (t0 := 78) (hsz (add (add S S) one)) (hss _ _) (hone (add (add S S) one))) rfl rfl) <|
        ok_nil
      clear h; intro β' a w e h; replace eb := eb_trans (k := 5) e eb; clear e
      refine blk_norm ?_
      obtain ⟨q1, q2, q3⟩ := hI.back h eb rfl (by kernel_rfl)
      exact ⟨q2, ⟨q3 p (Nat.lt_of_lt_of_le hpl hvs) (hne p hp1), q3 g (Nat.lt_of_lt_of_le hgl hvs) (hne g hg1)⟩, by rw [hx, fldM_1, hSe]; exact q1, Nat.le_trans hvs q2.size⟩
    · refine wpIn_block ?_
      refine wpIn_seq ?_
      refine St.rgR h [(15, .inl (.func (.func 48) #[.agg (ces [dN])] #[])), (16, .inl (.agg (Vl S))), (17, .inl (.agg (Vl S))), (18, .inl (.agg (Vl (add S S))))] [] [(4, Vl (add S S))] [eR 2, eR 4, eR 4, nn, eS 4] ?_ ?_
      · exact oc (k_ld 2 0 (.func (.func 48) #[.agg (ces [dN])] #[]) (c := #[.func (.func 48) #[.agg (ces [dN])] #[]]) ld_fnsh rfl rfl) <|
        oc (k_ld 4 0 (.agg (Vl S)) (c := Vl S) (ld_row (t0 := 78) Tryz.underlying78 rfl (hsz S)) rfl rfl) <|
        oc (k_ld 4 0 (.agg (Vl S)) (c := Vl S) (ld_row (t0 := 78) Tryz.underlying78 rfl (hsz S)) rfl rfl) <|
        oc (k_cv #[.agg (ces [dN])] #[.agg (Vl S), .agg (Vl S)] #[.agg (ces [dN]), .agg (Vl S), .agg (Vl S)] (.agg (Vl (add S S))) (hplus _ _ hS hS) rfl rfl) <|
        oc (k_st 4 0 (.agg (Vl (add S S))) (c := Vl S) (n := Vl (add S S)) (st_row (t0 := 78) (hsz (add S S)) (hss _ _) (hone (add S S))) rfl rfl) <|
        ok_nil
      clear h; intro β' a w e h; replace eb := eb_trans (k := 5) e eb; clear e
      refine thenR ?_
      refine wpIn_seq ?_
      refine St.rgR h [(19, .inl (.int .u8 (x : Nat))), (20, .inl (.bool false))] [] [] [] ?_ ?_
      · exact oz (k_mv (.inl rfl) rfl) <|
        oz (k_bi (.int .u8 (x : Nat)) (.int .u8 (1 : Nat)) (.bool false) (eq_u8s (m := x) (n := 1) (decide_eq_false (by omega))) rfl rfl) <|
        ok_nil
      clear h; intro β' a w e h; replace eb := eb_trans (k := 5) e eb; clear e
      refine thenR ?_
      refine s_cfR h ?_
      refine wpIn_skip ?_
      refine blk_norm ?_
      obtain ⟨q1, q2, q3⟩ := hI.back h eb rfl (by kernel_rfl)
      exact ⟨q2, ⟨q3 p (Nat.lt_of_lt_of_le hpl hvs) (hne p hp1), q3 g (Nat.lt_of_lt_of_le hgl hvs) (hne g hg1)⟩, by rw [fldM_0 _ _ _ _ hx, hSe]; exact q1, Nat.le_trans hvs q2.size⟩
  case done =>
    rintro D xs v hD rfl ⟨hI, hvs⟩ hK
    refine blk_norm ?_
    refine sym_then ?_
    refine sym_seq ?_
    have r1 := hI.row 4 _ rfl
    have r2 := hI.row 3 _ rfl
    have hD3 : D ≠ β 3 := fun e => by rw [e, r2] at hK; cases hK
    have hB := hI.bel.below
    have o3 := Nat.le_of_not_lt (hI.old 3 (by simp))
    refine rg_ls (p := 9) (d := 25) (q := 8) (t := 78) (by kernel_rfl) (by kernel_rfl) rfl rfl rfl rfl rfl rfl (by decide) (by simp) r1 r2 Tryz.underlying78 rfl (hsz _) (hzs _) (hone _) ?_
    refine sym_then ?_
    refine wp_ret ?_
    refine mark_ret (D := D) (g := β 3) rfl ((setRow_other _ _ _ _ hD3).trans hK) Tryz.results45 (by kernel_rfl) (setRow_heap _ _ _ _ _ _ r2) Tryz.underlying78 rfl (hsz _) ⟨rfl, ?_⟩
    refine (below_setRow hB o3 _).trans (belowK_b (w := w2) h2.bel.size _ D _ _ hD ((setRow_other _ _ _ _ hD3).trans hK) rfl rfl)
  case stop =>
    rintro D c pre v _ _ h _
    exact h.elim
end Go.Proofs.YtacokkedomjgpaaGreatDoor

namespace Go.Proofs.YtacokkedomjgpaaGreatDoor
open Go.RowKit Go.Shelf
theorem sl_key (w : World) (q : Nat) : (Instr.sliceAt 23 (.pointer (some ⟨q, 0, none⟩)) none none none).run Tryz.prog w = .ok (.slice (some ⟨q, 0, none⟩) 32 32) w := by kernel_rfl
def vS (v : Nat × Nat × Nat × Nat) : Array Value := ces [v.1, v.2.1, v.2.2.1, v.2.2.2]
theorem manyS_r {f : Nat → Nat} (hf : ∀ i, f i < 256) {n1 n2 : Nat × Nat × Nat × Nat} (h0 : Gd n1) (h1 : Gd n2) (w : World) (q : Nat) (hq : w.heap[q]? = some (.cells (ck f) 23 (0, 0))) :
    Calls Tryz.prog 45 #[.slice (some ⟨q, 0, none⟩) 32 32, .agg (vS n1), .agg (vS n2), .func (.func 48) #[.agg (ces [dN])] #[]] w fun e w' => e = .returned (.agg (vS (fldM sumS n1 n2 (tops f (8 * 32) (8 * 32))))) ∧ Below w.heap.size w w' :=
  many_sh (Vl := vS) (G := Gd) (add := sumS) (zc0 := ces [0, 0, 0, 0]) (fun v => by unfold vS; rw [ces_size]; kernel_rfl) (fun v u => by unfold vS; rw [ces_size, ces_size]; rfl) (fun v => by unfold vS; rw [ces_size, ces_size]; rfl) (fun v => ces_one _) alS (fun _ _ _ _ => sumS_gd _ _)
    (fun v u hv hu w => sum_r dN_lt hv.1 hv.2.1 hv.2.2.1 hv.2.2.2 hu.1 hu.2.1 hu.2.2.1 hu.2.2.2 w) h0 h1 (by omega) w (bs_key hf hq)
set_option maxHeartbeats 4000000 in
theorem many_q {x b X Y Z T : Nat} {f : Nat → Nat} (hx : x < pp) (hb : b < pp) (hX : X < pp) (hY : Y < pp) (hZ : Z < pp) (cM : ∀ (w : World) (q : Nat), w.heap[q]? = some (.cells (ck f) 23 (0, 0)) → Calls Tryz.prog 45 #[.slice (some ⟨q, 0, none⟩) 32 32, .agg (ces [0, (ad 0 1), 1, (mu 0 (ad 0 1))]), .agg (ces [x, (ad b 1), 1, (mu x (ad b 1))]), .func (.func 48) #[.agg (ces [dN])] #[]] w fun e w' => e = .returned (.agg (ces [X, Y, Z, T])) ∧ Below w.heap.size w w') (W0 : World) :
    Calls Tryz.prog 20 #[.agg (ces [x, b]), .agg (ck f)] W0 fun e w' => e = .returned (.agg (ces [mu X (mu 1 (inv Z)), sb (mu Y (mu 1 (inv Z))) 1])) ∧ Below W0.heap.size W0 w' := by
  refine s_in Tryz.func20 Tryz.ntmps20 rfl [.inl (.agg (ces [x, b])), .inl (.agg (ck f))] ?_
  intro β a h
  refine sym_seq ?_
  refine St.rg h [(2, .inr (0, pt 0)), (3, .inr (1, pt 0)), (4, .inr (2, pt 0))] [(ces [x, b], 48), (ck f, 23), (ces [0, 0], 48)] [] [eN 0, eN 1, eN 2] ?_ ?_
  · exact oc (k_bx 0 (.agg (ces [x, b])) (bxP (a := x) (b := b)) rfl rfl) <|
    oc (k_bx 1 (.agg (ck f)) (bxK (b := f)) rfl rfl) <|
    oc (k_al 2 alP rfl rfl) <|
    ok_nil
  clear h; intro β a w h
  refine sym_then ?_
  refine sym_seq ?_
  refine St.rg h [(5, .inr (1, sl 0 32 32)), (6, .inl (.agg (ces [0, 0]))), (7, .inl (.agg (ces [0, (ad 0 1), 1, (mu 0 (ad 0 1))]))), (8, .inl (.agg (ces [x, b]))), (9, .inl (.agg (ces [x, (ad b 1), 1, (mu x (ad b 1))]))), (10, .inl (.agg (ces [dN]))), (11, .inl (.func (.func 48) #[.agg (ces [dN])] #[])), (12, .inl (.agg (ces [X, Y, Z, T]))), (13, .inl (.agg (ces [(mu X (mu 1 (inv Z))), (sb (mu Y (mu 1 (inv Z))) 1)])))] [] [(2, ces [(mu X (mu 1 (inv Z))), (sb (mu Y (mu 1 (inv Z))) 1)])] [nn, nn, nn, eR 0, nn, nn, nn, eR 1, nn, eS 2] ?_ ?_
  · exact oc (k_sl 1 32 rfl rfl sl_key) <|
    oc (k_bu #[] (.agg (ces [0, 0])) bdP0 rfl rfl) <|
    oc (k_ca 46 #[.agg (ces [0, 0])] (.agg (ces [0, (ad 0 1), 1, (mu 0 (ad 0 1))])) (fun w => shared_r zero_ltp zero_ltp w) rfl rfl) <|
    oc (k_ld 0 0 (.agg (ces [x, b])) (c := ces [x, b]) (ldP (a := x) (b := b) 48) rfl rfl) <|
    oc (k_ca 46 #[.agg (ces [x, b])] (.agg (ces [x, (ad b 1), 1, (mu x (ad b 1))])) (fun w => shared_r hx hb w) rfl rfl) <|
    oc (k_ca 47 #[] (.agg (ces [dN])) law_r rfl rfl) <|
    oc (k_mf #[.agg (ces [dN])] rfl rfl) <|
    oc (k_cb 45 (fun q => #[.slice (some ⟨q, 0, none⟩) 32 32, .agg (ces [0, (ad 0 1), 1, (mu 0 (ad 0 1))]), .agg (ces [x, (ad b 1), 1, (mu x (ad b 1))]), .func (.func 48) #[.agg (ces [dN])] #[]]) (.agg (ces [X, Y, Z, T])) 1 5 (fun w q _ hq => cM w q hq) rfl rfl (by simp) (fm := sl 0 32 32)) <|
    oc (k_ca 49 #[.agg (ces [X, Y, Z, T])] (.agg (ces [(mu X (mu 1 (inv Z))), (sb (mu Y (mu 1 (inv Z))) 1)])) (fun w => point_r hX hY hZ w) rfl rfl) <|
    oc (k_st 2 0 (.agg (ces [(mu X (mu 1 (inv Z))), (sb (mu Y (mu 1 (inv Z))) 1)])) (c := ces [0, 0]) (n := ces [(mu X (mu 1 (inv Z))), (sb (mu Y (mu 1 (inv Z))) 1)]) (stP (a := (mu X (mu 1 (inv Z)))) (b := (sb (mu Y (mu 1 (inv Z))) 1)) (c := ces [0, 0]) 48 (by rw [ces_size]; rfl)) rfl rfl) <|
    ok_nil
  clear h; intro β a w h
  refine sym_then ?_
  refine wp_ret ?_
  exact s_rc (b := 2) (t0 := 48) (c := ces [(mu X (mu 1 (inv Z))), (sb (mu Y (mu 1 (inv Z))) 1)]) h Tryz.results20 Tryz.underlying48 (fun hb => ⟨rfl, hb⟩) (by rw [ces_size]; kernel_rfl)

def pvt (p : Fp × Fp) : Array Value := ces [p.1.val, sb p.2.val 1]
theorem ad_v (p : Fp × Fp) : ad (sb p.2.val 1) 1 = p.2.val := ad_sb p.2.isLt
theorem cf_sv {n : Nat} (h : n < pp) : (cf n).val = n := Nat.mod_eq_of_lt h
theorem sh_pj (p : Fp × Fp) : Pj (p.1.val, ad (sb p.2.val 1) 1, 1, mu p.1.val (ad (sb p.2.val 1) 1)) p := by
  rw [ad_v]
  unfold Pj
  simp only [cf_mu, cf_val, cf_one]
  exact ⟨fin_10, by grind, by grind, by grind⟩
theorem sh_gd (p : Fp × Fp) : Gd (p.1.val, ad (sb p.2.val 1) 1, 1, mu p.1.val (ad (sb p.2.val 1) 1)) := ⟨p.1.isLt, ad_lt _ _, one_ltp, mu_lt _ _⟩
theorem g_pt {R : Type} [Lean.Grind.CommRing R] (x z i : R) (h : z * i = 1) : x * z * (1 * i) = x := by grind
theorem pt_pj {v : Nat × Nat × Nat × Nat} {p : Fp × Fp} (g : Gd v) (h : Pj v p) : ces [mu v.1 (mu 1 (inv v.2.2.1)), sb (mu v.2.1 (mu 1 (inv v.2.2.1))) 1] = pvt p := by
  obtain ⟨nz, e1, e2, -⟩ := h
  have hi : cf v.2.2.1 * cf (inv v.2.2.1) = 1 := by
    have := fi_mul nz
    unfold fi at this
    rwa [cf_sv g.2.2.1] at this
  have hx : mu v.1 (mu 1 (inv v.2.2.1)) = p.1.val := by
    refine cf_inj (mu_lt _ _) p.1.isLt ?_
    rw [cf_mu, cf_mu, cf_one, e1, cf_val]; exact g_pt _ _ _ hi
  have hy : mu v.2.1 (mu 1 (inv v.2.2.1)) = p.2.val := by
    refine cf_inj (mu_lt _ _) p.2.isLt ?_
    rw [cf_mu, cf_mu, cf_one, e2, cf_val]; exact g_pt _ _ _ hi
  unfold pvt
  rw [hx, hy]
theorem o_sh : sb pO.2.val 1 = 0 := by decide +kernel
theorem o_x : pO.1.val = 0 := rfl
theorem pv_O : pvt pO = ces [0, 0] := by unfold pvt; rw [o_sh]; rfl
theorem many_pv {p : Fp × Fp} (hp : OC p) {f : Nat → Nat} (hf : ∀ i, f i < 256) (W0 : World) : Calls Tryz.prog 20 #[.agg (pvt p), .agg (ck f)] W0 fun e w' => e = .returned (.agg (pvt (mt (nbv f 32) p))) ∧ Below W0.heap.size W0 w' := by
  have g0 := sh_gd pO
  have j0 := sh_pj pO
  rw [o_sh, o_x] at g0 j0
  have h := many_q (x := p.1.val) (b := sb p.2.val 1) (f := f) p.1.isLt (sb_lt _ _) (X := (fldM sumS _ _ (tops f (8 * 32) (8 * 32))).1) (Y := (fldM sumS _ _ (tops f (8 * 32) (8 * 32))).2.1) (Z := (fldM sumS _ _ (tops f (8 * 32) (8 * 32))).2.2.1) (T := (fldM sumS _ _ (tops f (8 * 32) (8 * 32))).2.2.2)
    (fldM_good (fun _ _ _ _ => sumS_gd _ _) g0 (sh_gd p) _).1 (fldM_good (fun _ _ _ _ => sumS_gd _ _) g0 (sh_gd p) _).2.1 (fldM_good (fun _ _ _ _ => sumS_gd _ _) g0 (sh_gd p) _).2.2.1 (fun w q hq => manyS_r hf g0 (sh_gd p) w q hq) W0
  have hr := fldM_rel (add := sumS) (no := (0, ad 0 1, 1, mu 0 (ad 0 1))) (one := (p.1.val, ad (sb p.2.val 1) 1, 1, mu p.1.val (ad (sb p.2.val 1) 1))) hp (Rl := fun v q => Gd v ∧ Pj v q) (fun u v q r hq hr h1 h2 => ⟨sumS_gd _ _, sumS_pj h1.1 h2.1 hq hr h1.2 h2.2⟩) ⟨g0, j0⟩ ⟨sh_gd p, sh_pj p⟩ (tops f (8 * 32) (8 * 32))
  rw [tops_all hf] at hr
  rw [pt_pj hr.1 hr.2] at h
  exact h
theorem sum_pj {p q : Fp × Fp} (hp : OC p) (hq : OC q) : ces [sx p.1.val (sb p.2.val 1) q.1.val (sb q.2.val 1), sb (sy p.1.val (sb p.2.val 1) q.1.val (sb q.2.val 1)) 1] = pvt (pa p q) := by
  have h := pt_pj (sumS_gd _ _) (sumS_pj (sh_gd p) (sh_gd q) hp hq (sh_pj p) (sh_pj q))
  unfold sumS at h
  unfold sx sy pX pY pZ
  exact h
theorem neg_v (a : Fp) : sb 0 a.val = (-a).val := by
  refine cf_inj (sb_lt _ _) (-a).isLt ?_
  rw [cf_sb a.isLt, cf_val, cf_val]
  have : cf 0 = 0 := rfl
  rw [this]; grind
theorem minus_pv {p q : Fp × Fp} (hp : OC p) (hq : OC q) (W0 : World) : Calls Tryz.prog 21 #[.agg (pvt p), .agg (pvt q)] W0 fun e w' => e = .returned (.agg (pvt (pa p (pn q)))) ∧ Below W0.heap.size W0 w' := by
  have h := minus_p p.1.isLt (sb_lt p.2.val 1) q.1.isLt (sb_lt q.2.val 1) W0
  rw [neg_v] at h
  have e := sum_pj hp (oc_n hq)
  have e1 : (pn q).1 = -q.1 := rfl
  have e2 : (pn q).2 = q.2 := rfl
  rw [e1, e2] at e
  rw [e] at h
  exact h

def kp (p : Fp × Fp) : Nat → Nat := tk p.1.val p.2.val
theorem key_pv (p : Fp × Fp) (W0 : World) : Calls Tryz.prog 22 #[.agg (pvt p)] W0 fun e w' => e = .returned (.agg (ck (kp p))) ∧ Below W0.heap.size W0 w' := by
  have h := pk p.1.isLt (sb_lt p.2.val 1) W0
  rw [ad_v] at h
  exact h
end Go.Proofs.YtacokkedomjgpaaGreatDoor

namespace Go.Proofs.YtacokkedomjgpaaGreatDoor
open Go.RowKit

theorem nb_kb {f : Nat → Nat} {y : Nat} : ∀ k, (∀ i, i < k → f i = kb y i) → nb f k = y % 256 ^ k
  | 0, _ => by rw [Nat.pow_zero, Nat.mod_one]; rfl
  | k + 1, h => by
    show nb f k + f k * 256 ^ k = _
    rw [nb_kb k fun i hi => h i (by omega), h k (by omega), Nat.pow_succ, Nat.mod_mul]
    unfold kb
    rw [Nat.mul_comm]
theorem kb_lt (y i : Nat) : kb y i < 256 := Nat.mod_lt _ (by omega)
theorem tk_lt {x y : Nat} (hy : y < pp) (i : Nat) : tk x y i < 256 := by
  have h := kb_top hy
  unfold tk updN
  split
  · exact kb_lt _ _
  · dsimp only
    split
    · omega
    · exact kb_lt _ _
theorem kp_lt (p : Fp × Fp) (i : Nat) : kp p i < 256 := tk_lt p.2.isLt i
theorem tk_low {x y : Nat} (hy : y < pp) (i : Nat) : updN (tk x y) 31 (tk x y 31 % 128) i = kb y i := by
  have h := kb_top hy
  unfold updN
  by_cases e : i = 31
  · subst e
    rw [if_pos rfl]
    unfold tk
    split
    · exact Nat.mod_eq_of_lt h
    · show (if (31 : Nat) = 31 then kb y 31 + 128 else kb y 31) % 128 = _
      rw [if_pos rfl]; omega
  · rw [if_neg e]
    unfold tk
    split
    · rfl
    · exact if_neg e
theorem tk_31 {x y : Nat} (hy : y < pp) : (x % 2 = 0 → tk x y 31 < 128) ∧ (x % 2 ≠ 0 → 128 ≤ tk x y 31) := by
  have h := kb_top hy
  unfold tk
  constructor
  · intro e; rw [if_pos e]; exact h
  · intro e; rw [if_neg e]
    show 128 ≤ if (31 : Nat) = 31 then kb y 31 + 128 else kb y 31
    rw [if_pos rfl]; omega
theorem g_uy {R : Type} [Lean.Grind.CommRing R] (d x y i : R) (h : y * y - x * x = 1 + d * (x * x * y * y)) (hi : (d * (y * y) + 1) * i = 1) : x * x = (y * y - 1) * i := by grind
theorem oc_uY {p : Fp × Fp} (hp : OC p) : mu p.1.val p.1.val = uY p.2.val := by
  refine cf_inj (mu_lt _ _) (mu_lt _ _) ?_
  have hz : cf (ad (mu dN (mu p.2.val p.2.val)) 1) ≠ 0 := by
    rw [cf_ad, cf_mu, cf_mu, cf_val, cf_one]
    exact fun h => fin_den1 h
  have hi := fi_mul hz
  unfold fi at hi
  rw [cf_sv (ad_lt _ _)] at hi
  unfold uY
  rw [cf_mu, cf_mu, cf_sb one_ltp, cf_mu, cf_val, cf_val, cf_one]
  rw [cf_ad, cf_mu, cf_mu, cf_val, cf_one] at hi
  exact g_uy dF _ _ _ hp hi
theorem of_pv {p : Fp × Fp} (hp : OC p) (W0 : World) : Calls Tryz.prog 15 #[.agg (ck (kp p))] W0 fun e w' => e = .returned (.tuple #[.agg (pvt p), .bool true]) ∧ Below W0.heap.size W0 w' := by
  have hu := oc_uY hp
  have hx := p.1.isLt
  have hy := p.2.isLt
  have hb : ∀ i, kp p i < 256 := kp_lt p
  unfold kp at hb ⊢
  unfold pvt
  generalize p.1.val = x at *
  generalize p.2.val = y at *
  have hc : ∀ i, updN (tk x y) 31 (tk x y 31 % 128) i < 256 := fun i => by rw [tk_low hy]; exact kb_lt _ _
  have cO := fun w => of_k hc w
  have eO : ofb (updN (tk x y) 31 (tk x y 31 % 128)) = y := by
    unfold ofb
    have h255 : y < 57896044618658097711785492504343953926634992332820282019728792003956564819968 := Nat.lt_trans hy (by decide +kernel)
    rw [nb_kb 32 fun i _ => tk_low hy i, Nat.mod_eq_of_lt (pp_256 hy), Nat.mod_eq_of_lt h255, Nat.mod_eq_of_lt hy]
  rw [eO] at cO
  have hkey : ∀ i, i < 32 → byt (dig y) i = updN (tk x y) 31 (tk x y 31 % 128) i := fun i hi => by rw [tk_low hy, byt_kb y i hi]
  obtain ⟨r, k, hr, ht, hf, cU⟩ := root_d (m := uY y) (mu_lt _ _)
  cases k with
  | false => exact absurd hu ((hf rfl).2 x)
  | true =>
    obtain ⟨hsq, hev⟩ := ht rfl
    have cE := fun w => evenX_r hy cU w
    by_cases h2 : x % 2 = 0
    · have e := same_x hx hr hu hsq (by omega)
      rw [e]
      have := of_e hb hy cO hkey cE ((tk_31 hy).1 h2) W0
      rwa [e] at this
    · have hz : r ≠ 0 := by
        intro e
        rw [e] at hsq
        have h0 : mu x x = 0 := hu.trans (by rw [← hsq, Nat.zero_mul, Nat.zero_mod])
        exact mul_ne hx hx (by omega) (by omega) h0
      have h1 := of_o hb hy cO hkey cE hr hz ((tk_31 hy).2 h2) W0
      have e := same_x hx (sb_lt 0 r) hu ((neg_sq hr hz).trans hsq) (by have := sb_odd hr hz hev; omega)
      rw [← e] at h1
      exact h1

def gG : Fp × Fp := (cf gX, cf (ad gB 1))
theorem gG_oc : OC gG := by
  have h : sb (mu (ad gB 1) (ad gB 1)) (mu gX gX) = ad 1 (mu dN (mu (mu (mu gX gX) (ad gB 1)) (ad gB 1))) := by decide +kernel
  have h2 := congrArg cf h
  rw [cf_sb (mu_lt _ _), cf_ad, cf_mu, cf_mu, cf_mu, cf_mu, cf_mu, cf_one] at h2
  exact h2
theorem pvt_G : pvt gG = ces [gX, gB] := by
  have h1 : gG.1.val = gX := cf_sv gX_lt
  have h2 : sb gG.2.val 1 = gB := by
    have : gG.2.val = ad gB 1 := cf_sv (ad_lt _ _)
    rw [this]; decide +kernel
  unfold pvt
  rw [h1, h2]
theorem gen_pv (W0 : World) : Calls Tryz.prog 19 #[] W0 fun e w' => e = .returned (.agg (pvt gG)) ∧ Below W0.heap.size W0 w' := by
  rw [pvt_G]; exact gen_g W0
theorem pvt_size (p : Fp × Fp) : (pvt p).size = 8 := by unfold pvt; rw [ces_size]; rfl
theorem ldPt {p : Fp × Fp} (t0 : TypeId) (w : World) (q : Nat) (h : w.heap[q]? = some (.cells (pvt p) t0 (0, 0))) : (Instr.loadAt 48 (.pointer (some ⟨q, 0, none⟩))).run Tryz.prog w = .ok (.agg (pvt p)) w :=
  ld_row (c := pvt p) Tryz.underlying48 rfl (by rw [pvt_size]; kernel_rfl) w q h
theorem stPt {p : Fp × Fp} {c : Array Value} (t0 : TypeId) (hc : c.size = 8) (w : World) (q : Nat) (h : w.heap[q]? = some (.cells c t0 (0, 0))) : (Instr.storeAt 48 (.pointer (some ⟨q, 0, none⟩)) (.agg (pvt p))).run Tryz.prog w = .ok () (w.setRow q (pvt p)) :=
  st_row (n := pvt p) (by rw [pvt_size]; kernel_rfl) (by rw [hc, pvt_size]) (ces_one _) w q h
theorem alPt (w : World) : (Instr.alloc 48 true (.tuple #[])).run Tryz.prog w = .ok (.pointer (some ⟨w.heap.size, 0, none⟩)) (w.alloc (.cells (pvt pO) 48)) := by
  rw [pv_O]; exact alP w
end Go.Proofs.YtacokkedomjgpaaGreatDoor

namespace Go.Proofs.YtacokkedomjgpaaGreatDoor
open Go.RowKit

def ordL : List Nat := [237, 211, 245, 92, 26, 99, 18, 88, 214, 156, 247, 162, 222, 249, 222, 20, 0, 0, 0, 0, 0, 0, 0, 0, 0, 0, 0, 0, 0, 0, 0, 16]
theorem ord_lt : ∀ i, kl ordL i < 256 := kl_lt (by decide)
theorem ord_n : nbv (kl ordL) 32 = oL := by decide +kernel
theorem ord_v : (fldM sumS (0, ad 0 1, 1, mu 0 (ad 0 1)) (gX, ad gB 1, 1, mu gX (ad gB 1)) (tops (kl ordL) (8 * 32) (8 * 32))).1 = 0 ∧ (fldM sumS (0, ad 0 1, 1, mu 0 (ad 0 1)) (gX, ad gB 1, 1, mu gX (ad gB 1)) (tops (kl ordL) (8 * 32) (8 * 32))).2.1 = (fldM sumS (0, ad 0 1, 1, mu 0 (ad 0 1)) (gX, ad gB 1, 1, mu gX (ad gB 1)) (tops (kl ordL) (8 * 32) (8 * 32))).2.2.1 := by decide +kernel

theorem pj_zero {v : Nat × Nat × Nat × Nat} {p : Fp × Fp} (h : Pj v p) (h0 : v.1 = 0) (h1 : v.2.1 = v.2.2.1) : p = pO := by
  obtain ⟨nz, e1, e2, -⟩ := h
  have hi := fi_mul nz
  have c0 : cf 0 = 0 := rfl
  rw [h0, c0] at e1
  rw [h1] at e2
  generalize cf v.2.2.1 = z at *
  refine Prod.ext ?_ ?_
  · show p.1 = 0
    grind
  · show p.2 = 1
    grind
theorem G_sh : Pj (gX, ad gB 1, 1, mu gX (ad gB 1)) gG := by
  have h := sh_pj gG
  have h1 : gG.1.val = gX := cf_sv gX_lt
  have h2 : gG.2.val = ad gB 1 := cf_sv (ad_lt _ _)
  rw [ad_v, h1, h2] at h
  exact h
theorem O_sh : Pj (0, ad 0 1, 1, mu 0 (ad 0 1)) pO := by
  have h := sh_pj pO
  rw [o_sh, o_x] at h
  exact h
theorem ord_G : mt oL gG = pO := by
  have gO : Gd (0, ad 0 1, 1, mu 0 (ad 0 1)) := ⟨zero_ltp, ad_lt _ _, one_ltp, mu_lt _ _⟩
  have gg : Gd (gX, ad gB 1, 1, mu gX (ad gB 1)) := ⟨gX_lt, ad_lt _ _, one_ltp, mu_lt _ _⟩
  have hr := fldM_rel (add := sumS) (no := (0, ad 0 1, 1, mu 0 (ad 0 1))) (one := (gX, ad gB 1, 1, mu gX (ad gB 1))) gG_oc (Rl := fun v q => Gd v ∧ Pj v q) (fun u v q r hq hr h1 h2 => ⟨sumS_gd _ _, sumS_pj h1.1 h2.1 hq hr h1.2 h2.2⟩) ⟨gO, O_sh⟩ ⟨gg, G_sh⟩ (tops (kl ordL) (8 * 32) (8 * 32))
  rw [tops_all ord_lt, ord_n] at hr
  exact pj_zero hr.2 ord_v.1 ord_v.2
theorem mt_O : ∀ j, mt j pO = pO
  | 0 => rfl
  | j + 1 => by show pa (mt j pO) pO = pO; rw [mt_O j, pa_O]
theorem mt_mod (n : Nat) : mt (n % oL) gG = mt n gG := by
  have h := mt_add gG_oc (n / oL * oL) (n % oL)
  rw [← mt_mul gG_oc oL, ord_G, mt_O, pa_comm, pa_O, Nat.mul_comm, Nat.div_add_mod] at h
  exact h
theorem nB_nbv (f : Nat → Nat) : ∀ k, nB f k = nbv f k
  | 0 => rfl
  | k + 1 => by show nB f k + _ = nbv f k + _; rw [nB_nbv f k]
theorem nbv_kq {n : Nat} : ∀ k, nbv (kq n) k = n % 256 ^ k
  | 0 => by rw [Nat.pow_zero, Nat.mod_one]; rfl
  | k + 1 => by
    show nbv (kq n) k + kq n k * 256 ^ k = _
    rw [nbv_kq k, Nat.pow_succ, Nat.mod_mul]
    unfold kq
    rw [Nat.mul_comm]
theorem oL_256 {n : Nat} (h : n < oL) : nbv (kq n) 32 = n := by
  rw [nbv_kq, Nat.mod_eq_of_lt]
  exact Nat.lt_trans h (by decide +kernel)
end Go.Proofs.YtacokkedomjgpaaGreatDoor

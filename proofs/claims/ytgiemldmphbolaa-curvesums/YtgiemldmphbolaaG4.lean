/- X6, M7, Ref5, X7, M8, Ref6a, laid together. -/
import Derived.Test.YtgiemldmphbolaaG2
import Derived.Test.YtgiemldmphbolaaG3
namespace Go.Proofs.Ytgiemldmphbolaa
open Go.RowKit

section
variable {x u : Operand}
theorem cv_iu {n : Nat} (h : n < 9223372036854775808) (w : World) : (convert 3 81 (.int .i64 ((n : Nat) : Int))).run Try.prog w = .ok (.int .u64 ((n : Nat) : Int)) w := by
  have h1 : IntKind.u64.wrap (n : Int) = (n : Int) := by rw [IntKind.wrap_u64]; omega
  simp [convert, go_sem, h1]
theorem cv_bi {n : Nat} (h : n < 256) (w : World) : (convert 5 3 (.int .u8 ((n : Nat) : Int))).run Try.prog w = .ok (.int .i64 ((n : Nat) : Int)) w := by
  have h1 := wrapI (n : Int) (by omega) (by omega)
  simp [convert, go_sem, h1]
theorem sr_b {m r : Nat} (hr : r < 8) (w : World) : (do eqGuard .shr 5 x u (.int .u8 ((m : Nat) : Int)) (.int .u64 ((r : Nat) : Int)); binOp .shr 5 (.int .u8 ((m : Nat) : Int)) (.int .u64 ((r : Nat) : Int))).run Try.prog w = .ok (.int .u8 ((m / 2 ^ r : Nat) : Int)) w := by
  simp [eqGuard, binOp, go_sem]
theorem sr_i {m r : Nat} (hr : r < 64) (w : World) : (do eqGuard .shr 3 x u (.int .i64 ((m : Nat) : Int)) (.int .u64 ((r : Nat) : Int)); binOp .shr 3 (.int .i64 ((m : Nat) : Int)) (.int .u64 ((r : Nat) : Int))).run Try.prog w = .ok (.int .i64 ((m / 2 ^ r : Nat) : Int)) w := by
  simp [eqGuard, binOp, go_sem]
theorem sl_b {r : Nat} (hr : r < 8) (w : World) : (do eqGuard .shl 5 x u (.int .u8 ((1 : Nat) : Int)) (.int .u64 ((r : Nat) : Int)); binOp .shl 5 (.int .u8 ((1 : Nat) : Int)) (.int .u64 ((r : Nat) : Int))).run Try.prog w = .ok (.int .u8 ((2 ^ r : Nat) : Int)) w := by
  have h1 : IntKind.u8.wrap (2 ^ r) = 2 ^ r := by
    obtain rfl | rfl | rfl | rfl | rfl | rfl | rfl | rfl : r = 0 ∨ r = 1 ∨ r = 2 ∨ r = 3 ∨ r = 4 ∨ r = 5 ∨ r = 6 ∨ r = 7 := by omega
    all_goals rfl
  simp [eqGuard, binOp, go_sem, h1]
theorem ad_b {m n : Nat} (h : m + n < 256) (w : World) : (do eqGuard .add 5 x u (.int .u8 ((m : Nat) : Int)) (.int .u8 ((n : Nat) : Int)); binOp .add 5 (.int .u8 ((m : Nat) : Int)) (.int .u8 ((n : Nat) : Int))).run Try.prog w = .ok (.int .u8 ((m + n : Nat) : Int)) w := by
  have h1 : IntKind.u8.wrap ((m : Int) + (n : Int)) = ((m + n : Nat) : Int) := by rw [IntKind.wrap_u8]; omega
  simp [eqGuard, binOp, go_sem, h1]
end
theorem ld_k {t0 : TypeId} {i : Nat} {F : Nat → Nat} (hi : i < 32) (w : World) (q : Nat) (h : w.heap[q]? = some (.cells (ck F) t0 (0, 0))) : (Instr.loadAt 5 (.pointer (some ⟨q, i, none⟩))).run Try.prog w = .ok (.int .u8 ((F i : Nat) : Int)) w := by
  have h1 : w.cell? ⟨q, i, none⟩ = some (.int .u8 ((F i : Nat) : Int)) := by
    rw [cell_of_row _ _ _ _ _ _ h]; exact arr_get _ _ _ hi
  simp [Instr.loadAt, Instr.sureAddr, go_sem, h1]
theorem ck_set (F : Nat → Nat) (i v : Nat) : (ck F).setIfInBounds i (.int .u8 ((v : Nat) : Int)) = ck (updN F i v) := by
  unfold ck
  rw [arr_set]
  refine arr_congr fun j _ => ?_
  unfold upd updN
  by_cases h : j = i <;> simp [h]
theorem ck_congr {F G : Nat → Nat} (h : ∀ i, i < 32 → F i = G i) : ck F = ck G := arr_congr fun i hi => by rw [h i hi]
theorem st_k {t0 : TypeId} {i v : Nat} {F : Nat → Nat} (hi : i < 32) (w : World) (q : Nat) (h : w.heap[q]? = some (.cells (ck F) t0 (0, 0))) : (Instr.storeAt 5 (.pointer (some ⟨q, i, none⟩)) (.int .u8 ((v : Nat) : Int))).run Try.prog w = .ok () (w.setRow q (ck (updN F i v))) := by
  have h1 : w.cell? ⟨q, i, none⟩ = some (.int .u8 ((F i : Nat) : Int)) := by
    rw [cell_of_row _ _ _ _ _ _ h]; exact arr_get _ _ _ hi
  have h2 : w.setCell ⟨q, i, none⟩ (.int .u8 ((v : Nat) : Int)) = w.setRow q (ck (updN F i v)) := by rw [set_row h, ck_set]
  have h3 : w.frozen? ⟨q, i, none⟩ = false := by
    simp [World.frozen?, h]
  simp [Instr.storeAt, Instr.sureAddr, go_sem, h1, h2, h3]
theorem ck_one (F : Nat → Nat) : (ck F).all (·.oneCell') = true := by
  rw [Array.all_eq_true_iff_forall_mem]
  intro v hv
  obtain ⟨i, hi⟩ := Array.getElem?_of_mem hv
  have hl : i < 32 := by have := (Array.getElem?_eq_some_iff.1 hi).1; rwa [ck_size] at this
  rw [ck, arr_get _ _ _ hl] at hi
  cases hi; rfl
theorem stK {F : Nat → Nat} {c : Array Value} (t0 : TypeId) (hc : c.size = 32) (w : World) (q : Nat) (h : w.heap[q]? = some (.cells c t0 (0, 0))) : (Instr.storeAt 23 (.pointer (some ⟨q, 0, none⟩)) (.agg (ck F))).run Try.prog w = .ok () (w.setRow q (ck F)) :=
  st_row (n := ck F) (by rw [ck_size]; kernel_rfl) (by rw [hc, ck_size]) (ck_one _) w q h
theorem ck_zero : ck (fun _ => 0) = ⟨List.replicate 32 (.int .u8 0)⟩ := arr_rep (fun _ _ => rfl)
theorem alK (w : World) : (Instr.alloc 23 true (.tuple #[])).run Try.prog w = .ok (.pointer (some ⟨w.heap.size, 0, none⟩)) (w.alloc (.cells (ck fun _ => 0) 23)) := by
  rw [ck_zero]
  simp [Instr.alloc, go_sem]
set_option maxRecDepth 100000 in
/-- Whether two keys are the same. -/
theorem eqK_t {x u : Operand} {F G : Nat → Nat} (h : ∀ i, i < 32 → F i = G i) (w : World) : (do eqGuard .eql 23 x u (.agg (ck F)) (.agg (ck G)); binOp .eql 23 (.agg (ck F)) (.agg (ck G))).run Try.prog w = .ok (.bool true) w := by
  have h1 := eq_ints (P := Try.prog) (t := 23) (e := 5) (n := 32) (k := .u8) (k' := .u8) Try.underlying23 (inf := _) rfl (by kernel_rfl) Try.underlying5 (fun _ => by kernel_rfl) (ck F) (ck G) (fun i => (F i : Int)) (fun i => (G i : Int)) (fun i hi => arr_get _ _ _ hi) (fun i hi => arr_get _ _ _ hi) w
  rw [decide_eq_true (fun i hi => by rw [h i hi])] at h1
  simp [eqGuard, binOp, go_sem, Op.equal, Op.maxDepth, h1]
end Go.Proofs.Ytgiemldmphbolaa

namespace Go.Proofs.Ytgiemldmphbolaa

/-- Bit number i. -/
def bt (B i : Nat) : Nat := B / 2 ^ i % 2
theorem bt_lt (B i : Nat) : bt B i < 2 := Nat.mod_lt _ (by omega)
theorem bt_mod {B s r : Nat} (h : r < s) : bt (B % 2 ^ s) r = bt B r := by
  have h1 := Nat.testBit_mod_two_pow B s r
  rw [Nat.testBit_eq_decide_div_mod_eq, Nat.testBit_eq_decide_div_mod_eq] at h1
  simp only [h, decide_true, Bool.true_and, decide_eq_decide] at h1
  unfold bt
  omega
theorem bt_dig {B s i : Nat} (hs : 0 < s) : bt (B / (2 ^ s) ^ (i / s) % 2 ^ s) (i % s) = bt B i := by
  rw [bt_mod (Nat.mod_lt _ hs)]
  unfold bt
  rw [← Nat.pow_mul, Nat.div_div_eq_div_mul, ← Nat.pow_add, Nat.div_add_mod]
theorem mod_bit (B i : Nat) : B % 2 ^ (i + 1) = B % 2 ^ i + bt B i * 2 ^ i := by
  unfold bt
  rw [Nat.pow_succ, Nat.mod_mul, Nat.mul_comm]
/-- A digit of the first bits, one bit more. -/
theorem bit_step {s : Nat} (hs : 0 < s) (B i j : Nat) : B % 2 ^ (i + 1) / (2 ^ s) ^ j % 2 ^ s = if j = i / s then B % 2 ^ i / (2 ^ s) ^ j % 2 ^ s + bt B i * 2 ^ (i % s) else B % 2 ^ i / (2 ^ s) ^ j % 2 ^ s := by
  have hp : ∀ k, 0 < (2 ^ s) ^ k := fun k => Nat.pow_pos (Nat.pow_pos (by omega))
  have hr : i % s < s := Nat.mod_lt _ hs
  have hi : 2 ^ i = 2 ^ (i % s) * (2 ^ s) ^ (i / s) := by rw [← Nat.pow_mul, ← Nat.pow_add, Nat.mod_add_div]
  have hx : B % 2 ^ i < 2 ^ i := Nat.mod_lt _ (Nat.pow_pos (by omega))
  have hb := bt_lt B i
  rw [mod_bit, hi, ← Nat.mul_assoc]
  rw [hi] at hx
  generalize B % (2 ^ (i % s) * (2 ^ s) ^ (i / s)) = x at *
  generalize bt B i = c at *
  have hpr : 2 ^ (i % s) * 2 ≤ 2 ^ s := by rw [← Nat.pow_succ]; exact Nat.pow_le_pow_right (by omega) hr
  generalize i / s = q at *
  generalize i % s = r at *
  by_cases e : j = q
  · subst e
    rw [if_pos rfl, Nat.add_mul_div_right _ _ (hp j)]
    have h1 : x / (2 ^ s) ^ j < 2 ^ r := Nat.div_lt_of_lt_mul (by rw [Nat.mul_comm]; exact hx)
    have h2 : c * 2 ^ r ≤ 1 * 2 ^ r := Nat.mul_le_mul_right _ (by omega)
    rw [Nat.mod_eq_of_lt (by omega), Nat.mod_eq_of_lt (by omega)]
  · rw [if_neg e]
    rcases Nat.lt_or_ge j q with h | h
    · obtain ⟨d, rfl⟩ : ∃ d, q = d + 1 + j := ⟨q - (j + 1), by omega⟩
      have h1 : c * 2 ^ r * (2 ^ s) ^ (d + 1 + j) = c * 2 ^ r * (2 ^ s) ^ d * 2 ^ s * (2 ^ s) ^ j := by
        rw [Nat.pow_add, Nat.pow_succ]; simp only [Nat.mul_assoc]
      rw [h1, Nat.add_mul_div_right _ _ (hp j), Nat.add_mul_mod_self_right]
    · have hle : (2 ^ s) ^ (q + 1) ≤ (2 ^ s) ^ j := Nat.pow_le_pow_right (Nat.pow_pos (by omega)) (by omega)
      have h2 : c * 2 ^ r * (2 ^ s) ^ q ≤ 2 ^ r * (2 ^ s) ^ q := Nat.mul_le_mul_right _ (by have : c * 2 ^ r ≤ 1 * 2 ^ r := Nat.mul_le_mul_right _ (by omega); omega)
      have h3 : 2 ^ r * 2 * (2 ^ s) ^ q ≤ 2 ^ s * (2 ^ s) ^ q := Nat.mul_le_mul_right _ hpr
      have h4 : 2 ^ r * 2 * (2 ^ s) ^ q = 2 ^ r * (2 ^ s) ^ q + 2 ^ r * (2 ^ s) ^ q := by
        rw [Nat.mul_assoc, Nat.mul_comm 2, ← Nat.mul_assoc, Nat.mul_two]
      have h5 : (2 ^ s) ^ (q + 1) = 2 ^ s * (2 ^ s) ^ q := by rw [Nat.pow_succ, Nat.mul_comm]
      rw [Nat.div_eq_of_lt (by omega), Nat.div_eq_of_lt (by omega)]

/-- The figures of the first i bits. -/
def ofF (B i j : Nat) : Nat := dg (B % 2 ^ i) j
/-- A bit, so many times doubled. -/
def btk (B i k : Nat) : Nat := bt B i * 2 ^ k
theorem btk_le (B i : Nat) {k : Nat} (hk : k ≤ 11) : btk B i k ≤ 2048 := by
  have h1 := bt_lt B i
  have h2 : bt B i * 2 ^ k ≤ 1 * 2 ^ 11 := Nat.mul_le_mul (by omega) (Nat.pow_le_pow_right (by omega) hk)
  unfold btk; omega
theorem btk_next (B i k : Nat) : 2 * btk B i k = btk B i (k + 1) := by unfold btk; rw [Nat.pow_succ, Nat.mul_comm 2, Nat.mul_assoc]
theorem ofF_zero (B : Nat) : ai 44 (fun _ => 0) = ai 44 (ofF B 0) := ai_congr fun i _ => by simp [ofF, Nat.mod_one, dg]
theorem ofF_next (B i : Nat) : ai 44 (updN (ofF B i) (i / 12) (ofF B i (i / 12) + btk B i (i % 12))) = ai 44 (ofF B (i + 1)) := ai_congr fun j _ => by
  have h := bit_step (s := 12) (by omega) B i j
  rw [show (2 : Nat) ^ 12 = 4096 from rfl] at h
  unfold updN ofF btk dg
  rw [h]
  by_cases e : j = i / 12
  · rw [if_pos e, if_pos e, e]
  · rw [if_neg e, if_neg e]
theorem ofF_lt (B i j : Nat) : ofF B i j < 1099511627776 := by have := dg_lt (B % 2 ^ i) j; unfold ofF; omega
theorem ofF_small (B i j : Nat) : ofF B i j < 4096 := dg_lt _ _
theorem ofF_pv (B : Nat) : pv (ofF B 255) 44 = B % 2 ^ 255 := by
  have h : pv (ofF B 255) 44 = pv (dg (B % 2 ^ 255)) 44 := rfl
  rw [h, pv_dg]
  refine Nat.mod_eq_of_lt (Nat.lt_trans (Nat.mod_lt _ (Nat.pow_pos (by omega))) ?_)
  decide +kernel
theorem nb_low {b : Nat → Nat} (hb : ∀ i, b i < 256) : ∀ k j, j < k → nb b k / 256 ^ j % 256 = b j := by
  intro k
  induction k with
  | zero => intro j h; omega
  | succ k ih =>
    intro j h
    rw [nb]
    by_cases e : j = k
    · subst e
      rw [Nat.add_mul_div_right _ _ (Nat.pow_pos (by omega)), Nat.div_eq_of_lt (nb_lt hb j), Nat.zero_add, Nat.mod_eq_of_lt (hb j)]
    · obtain ⟨d, rfl⟩ : ∃ d, k = d + 1 + j := ⟨k - (j + 1), by omega⟩
      have h1 : b (d + 1 + j) * 256 ^ (d + 1 + j) = b (d + 1 + j) * 256 ^ d * 256 * 256 ^ j := by
        rw [Nat.pow_add, Nat.pow_succ]; simp only [Nat.mul_assoc]
      rw [h1, Nat.add_mul_div_right _ _ (Nat.pow_pos (by omega)), Nat.add_mul_mod_self_right]
      exact ih j (by omega)
theorem bt_byte {b : Nat → Nat} (hb : ∀ i, b i < 256) {i : Nat} (hi : i < 256) : b (i / 8) / 2 ^ (i % 8) % 2 = btk (nb b 32) i 0 := by
  have h := bt_dig (B := nb b 32) (s := 8) (i := i) (by omega)
  rw [show (2 : Nat) ^ 8 = 256 from rfl, nb_low hb 32 (i / 8) (by omega)] at h
  unfold btk
  rw [Nat.pow_zero, Nat.mul_one, ← h]; rfl
theorem bt_fig (n i : Nat) : dg n (i / 12) / 2 ^ (i % 12) % 2 = bt n i := by
  have h := bt_dig (B := n) (s := 12) (i := i) (by omega)
  rw [show (2 : Nat) ^ 12 = 4096 from rfl] at h
  rw [← h]; rfl
theorem ofb_eq (b : Nat → Nat) : nb b 32 % 2 ^ 255 % pp = ofb b := rfl

/-- The bytes of the first i bits. -/
def keF (n i j : Nat) : Nat := n % 2 ^ i / 256 ^ j % 256
theorem keF_lt (n i j : Nat) : keF n i j < 256 := Nat.mod_lt _ (by omega)
theorem keF_zero (n : Nat) : ck (fun _ => 0) = ck (keF n 0) := ck_congr fun i _ => by simp [keF, Nat.mod_one]
theorem keF_one {n i : Nat} (h : bt n i = 1) : ck (updN (keF n i) (i / 8) (keF n i (i / 8) + 2 ^ (i % 8))) = ck (keF n (i + 1)) := ck_congr fun j _ => by
  have h0 := bit_step (s := 8) (by omega) n i j
  rw [show (2 : Nat) ^ 8 = 256 from rfl, h, Nat.one_mul] at h0
  unfold updN keF
  rw [h0]
  by_cases e : j = i / 8
  · rw [if_pos e, if_pos e, e]
  · rw [if_neg e, if_neg e]
theorem keF_none {n i : Nat} (h : bt n i = 0) : ck (keF n i) = ck (keF n (i + 1)) := ck_congr fun j _ => by
  have h0 := bit_step (s := 8) (by omega) n i j
  rw [show (2 : Nat) ^ 8 = 256 from rfl, h, Nat.zero_mul, Nat.add_zero] at h0
  unfold keF
  rw [h0]; split <;> rfl
theorem keF_room {n i : Nat} (h : bt n i = 1) : keF n i (i / 8) + 2 ^ (i % 8) < 256 := by
  have h0 := bit_step (s := 8) (by omega) n i (i / 8)
  rw [if_pos rfl, show (2 : Nat) ^ 8 = 256 from rfl, h, Nat.one_mul] at h0
  unfold keF
  rw [← h0]; exact Nat.mod_lt _ (by omega)
/-- An element's text. -/
def kb (n j : Nat) : Nat := n / 256 ^ j % 256
theorem keF_end {n : Nat} (h : n < 2 ^ 256) : ck (keF n 256) = ck (kb n) := ck_congr fun j _ => by
  unfold keF kb; rw [Nat.mod_eq_of_lt h]
theorem byt_kb (n : Nat) : ∀ j, j < 32 → byt (dig n) j = kb n j := by
  intro j hj
  have hq : j / 8 = 0 ∨ j / 8 = 1 ∨ j / 8 = 2 ∨ j / 8 = 3 := by omega
  have hp : (256 : Nat) ^ j = 256 ^ (8 * (j / 8)) * 256 ^ (j % 8) := by rw [← Nat.pow_add, Nat.div_add_mod]
  unfold byt kb
  rw [hp, ← Nat.div_div_eq_div_mul]
  have hr : j % 8 < 8 := Nat.mod_lt _ (by omega)
  -- a word, and what stands above it
  have key : ∀ y, y % 18446744073709551616 / 256 ^ (j % 8) % 256 = y / 256 ^ (j % 8) % 256 := by
    intro y
    have e1 : y = y % 18446744073709551616 + 18446744073709551616 * (y / 18446744073709551616) := (Nat.mod_add_div _ _).symm
    have e2 : (18446744073709551616 : Nat) = 256 ^ (j % 8) * (256 ^ (7 - j % 8) * 256) := by
      rw [← Nat.pow_succ, ← Nat.pow_add, show j % 8 + (7 - j % 8).succ = 8 by omega]
    conv => rhs; rw [e1]
    conv => rhs; rw [show 18446744073709551616 * (y / 18446744073709551616) = 256 ^ (j % 8) * ((256 ^ (7 - j % 8) * (y / 18446744073709551616)) * 256) by
      conv => lhs; arg 1; rw [e2]
      simp only [Nat.mul_assoc, Nat.mul_comm 256 _]]
    rw [Nat.add_mul_div_left _ _ (Nat.pow_pos (by omega)), Nat.add_mul_mod_self_right]
  rcases hq with h | h | h | h <;> rw [h]
  · show n % 18446744073709551616 / _ % 256 = _
    rw [key]; simp
  · show n / 18446744073709551616 % 18446744073709551616 / _ % 256 = _
    rw [key]
  · show n / 340282366920938463463374607431768211456 % 18446744073709551616 / _ % 256 = _
    rw [key]
  · show n / 6277101735386680763835789423207666416102355444464034512896 % 18446744073709551616 / _ % 256 = _
    rw [key]
end Go.Proofs.Ytgiemldmphbolaa

namespace Go.Proofs.Ytgiemldmphbolaa
open Go.RowKit
theorem of_least (b : Nat → Nat) (w : World) : Calls Try.prog 67 #[.agg (ai 44 (ofF (nb b 32) 255))] w fun e w' => e = .returned (.agg (ai 22 (dg (ofb b)))) ∧ Below w.heap.size w w' := by
  have := least_r (ofF_lt (nb b 32) 255) (ofF_pv (nb b 32)) (Nat.lt_trans (Nat.mod_lt _ (Nat.pow_pos (by omega))) (by decide +kernel)) w
  rwa [ofb_eq] at this
theorem pp_256 {m : Nat} (h : m < pp) : m < 2 ^ 256 := Nat.lt_trans h (by decide +kernel)
set_option maxHeartbeats 4000000 in
theorem of_r {b : Nat → Nat} (hb : ∀ i, b i < 256) (W0 : World) : Calls Try.prog 34 #[.agg (ck b)] W0 fun e w' => e = .returned (.agg (ai 22 (dg (ofb b)))) ∧ Below W0.heap.size W0 w' := by
  refine sym_enter Try.func34 Try.ntmps34 rfl [.inl (.agg (ck b)), uu, uu, uu, uu, uu, uu, uu, uu, uu, uu, uu, uu, uu, uu, uu, uu, uu, uu, uu, uu, uu, uu, uu, uu, uu, uu, uu, uu, uu, uu, uu, uu, uu, uu, uu, uu, uu, uu, uu] (by kernel_rfl) (by kernel_rfl) ?_
  intro β a h
  refine sym_seq ?_
  refine St.region h [.inl (.agg (ck b)), .inr (0, 0), .inr (1, 0), uu, uu, uu, uu, uu, uu, uu, uu, uu, uu, uu, uu, uu, uu, uu, uu, uu, uu, uu, uu, uu, uu, uu, uu, uu, uu, uu, uu, uu, uu, uu, uu, uu, uu, uu, uu, uu] [(ck b, 23), (ai 22 (fun _ => 0), 35)] [(ck b, 23), (ai 22 (fun _ => 0), 35)] [#[], #[]] [⟨some 0, none, none, false⟩, ⟨some 1, none, none, false⟩] (by kernel_rfl) (by kernel_rfl) (by kernel_rfl) (by kernel_rfl) (by kernel_rfl) (by kernel_rfl) (by kernel_rfl) (by kernel_rfl) ?_ ?_
  · refine ok_cons (ok_box (b := 0) (u := .agg (ck b)) (bxK (b := b)) rfl (by kernel_rfl) rfl (by kernel_rfl) (by kernel_rfl) (by kernel_rfl) (by kernel_rfl)) ?_
    refine ok_cons (ok_alloc (b := 1) al22 rfl (by kernel_rfl) rfl (by kernel_rfl) (by kernel_rfl)) ?_
    exact ok_nil
  clear h; intro β a w h
  refine sym_then ?_
  refine sym_seq ?_
  refine St.region h [.inl (.agg (ck b)), .inr (0, 0), .inr (1, 0), .inr (2, 0), uu, uu, uu, uu, uu, uu, uu, uu, uu, uu, uu, uu, uu, uu, uu, uu, uu, uu, uu, uu, uu, uu, uu, uu, uu, uu, uu, uu, uu, uu, uu, uu, uu, uu, uu, uu] [(ck b, 23), (ai 22 (fun _ => 0), 35), (ai 44 (fun _ => 0), 95)] [(ck b, 23), (ai 22 (fun _ => 0), 35), (ai 44 (fun _ => 0), 95)] [#[], #[], #[]] [⟨some 2, none, none, false⟩] (by kernel_rfl) (by kernel_rfl) (by kernel_rfl) (by kernel_rfl) (by kernel_rfl) (by kernel_rfl) (by kernel_rfl) (by kernel_rfl) ?_ ?_
  · refine ok_cons (ok_alloc (b := 2) al44 rfl (by kernel_rfl) rfl (by kernel_rfl) (by kernel_rfl)) ?_
    exact ok_nil
  clear h; intro β a w h
  refine sym_then ?_
  refine sym_seq ?_
  refine sym_seq ?_
  refine St.region h [.inl (.agg (ck b)), .inr (0, 0), .inr (1, 0), .inr (2, 0), .inl (.int .i64 ((0 : Nat) : Int)), uu, uu, uu, uu, uu, uu, uu, uu, uu, uu, uu, uu, uu, uu, uu, uu, uu, uu, uu, uu, uu, uu, uu, uu, uu, uu, uu, uu, uu, uu, uu, uu, uu, uu, uu] [(ck b, 23), (ai 22 (fun _ => 0), 35), (ai 44 (fun _ => 0), 95)] [(ck b, 23), (ai 22 (fun _ => 0), 35), (ai 44 (fun _ => 0), 95)] [#[], #[], #[]] [nn] (by kernel_rfl) (by kernel_rfl) (by kernel_rfl) (by kernel_rfl) (by kernel_rfl) (by kernel_rfl) (by kernel_rfl) (by kernel_rfl) ?_ ?_
  · refine ok_cons (ok_mv (Or.inr rfl) (by kernel_rfl) rfl (by kernel_rfl) (by kernel_rfl)) ?_
    exact ok_nil
  clear h; intro β a w h
  refine sym_then ?_
  refine blk_in ?_
  replace h := St.setm h 2 (c := ai 44 (fun _ => 0)) (c' := ai 44 (ofF (nb b 32) 0)) (t := 95) (m' := [(ck b, 23), (ai 22 (fun _ => 0), 35), (ai 44 (ofF (nb b 32) 0), 95)]) (ofF_zero _) (by kernel_rfl) (by kernel_rfl)
  refine loop_up 255 (fun i a w => ∃ (x5 x6 x7 x8 x9 x10 x11 x12 x13 x14 x15 x16 x17 x18 x19 x20 x21 x22 x23 x24 x25 x26 x27 x28 x29 x30 x31 x32 x33 x34 x35 x36 x37 : SV) (β : Nat → Nat), St W0 [.inl (.agg (ck b)), .inr (0, 0), .inr (1, 0), .inr (2, 0), .inl (.int .i64 ((i : Nat) : Int)), x5, x6, x7, x8, x9, x10, x11, x12, x13, x14, x15, x16, x17, x18, x19, x20, x21, x22, x23, x24, x25, x26, x27, x28, x29, x30, x31, x32, x33, x34, x35, x36, x37, uu, uu] [(ck b, 23), (ai 22 (fun _ => 0), 35), (ai 44 (ofF (nb b 32) i), 95)] β a w) ⟨_, _, _, _, _, _, _, _, _, _, _, _, _, _, _, _, _, _, _, _, _, _, _, _, _, _, _, _, _, _, _, _, _, β, h⟩ ?_
  clear h; rintro i a w hki ⟨x5, x6, x7, x8, x9, x10, x11, x12, x13, x14, x15, x16, x17, x18, x19, x20, x21, x22, x23, x24, x25, x26, x27, x28, x29, x30, x31, x32, x33, x34, x35, x36, x37, β, h⟩
  have g1 := hb (i / 8)
  have g2 := ofF_small (nb b 32) i (i / 12)
  have g4 : i % 12 ≤ 11 := by omega
  have g3 := btk_le (nb b 32) i (k := i % 12) g4
  have g5 : i % 8 < 8 := by omega
  have g6 : b (i / 8) / 2 ^ (i % 8) < 256 := Nat.lt_of_le_of_lt (Nat.div_le_self _ _) (hb _)
  rcases Nat.lt_or_ge i 255 with hlti | hgei
  · refine sym_seq ?_
    refine sym_seq ?_
    refine St.region h [.inl (.agg (ck b)), .inr (0, 0), .inr (1, 0), .inr (2, 0), .inl (.int .i64 ((i : Nat) : Int)), x5, x6, .inl (.int .i64 ((i : Nat) : Int)), .inl (.bool true), x9, x10, x11, x12, x13, x14, x15, x16, x17, x18, x19, x20, x21, x22, x23, x24, x25, x26, x27, x28, x29, x30, x31, x32, x33, x34, x35, x36, x37, uu, uu] [(ck b, 23), (ai 22 (fun _ => 0), 35), (ai 44 (ofF (nb b 32) i), 95)] [(ck b, 23), (ai 22 (fun _ => 0), 35), (ai 44 (ofF (nb b 32) i), 95)] [#[], #[], #[]] [nn, nn] (by kernel_rfl) (by kernel_rfl) (by kernel_rfl) (by kernel_rfl) (by kernel_rfl) (by kernel_rfl) (by kernel_rfl) (by kernel_rfl) ?_ ?_
    · refine ok_cons (ok_mv (Or.inl rfl) (by kernel_rfl) rfl (by kernel_rfl) (by kernel_rfl)) ?_
      refine ok_cons (ok_bin (x1 := .int .i64 ((i : Nat) : Int)) (u1 := .int .i64 ((255 : Nat) : Int)) (v := .bool true) (lt_i (m := ((i : Nat) : Int)) (n := ((255 : Nat) : Int)) (decide_eq_true (by omega))) rfl (by kernel_rfl) rfl (by kernel_rfl) (by kernel_rfl) (by kernel_rfl) (by kernel_rfl) (by kernel_rfl)) ?_
      exact ok_nil
    clear h; intro β a w h
    refine sym_then ?_
    refine sym_cond_t h (by kernel_rfl) (by kernel_rfl) ?_
    refine wp_skip ?_
    refine sym_then ?_
    refine sym_seq ?_
    refine blk_in ?_
    refine sym_seq ?_
    refine St.region h [.inl (.agg (ck b)), .inr (0, 0), .inr (1, 0), .inr (2, 0), .inl (.int .i64 ((i : Nat) : Int)), .inl (.int .i64 (((((b (i / 8)) / 2 ^ (i % 8)) % 2) : Nat) : Int)), x6, .inl (.int .i64 ((i : Nat) : Int)), .inl (.bool true), x9, x10, .inl (.int .i64 ((i : Nat) : Int)), .inl (.int .i64 (((i / 8) : Nat) : Int)), .inr (0, (i / 8)), .inl (.int .u8 (((b (i / 8)) : Nat) : Int)), .inl (.int .i64 ((i : Nat) : Int)), .inl (.int .i64 (((i % 8) : Nat) : Int)), .inl (.int .u64 (((i % 8) : Nat) : Int)), .inl (.int .u8 ((((b (i / 8)) / 2 ^ (i % 8)) : Nat) : Int)), .inl (.int .i64 ((((b (i / 8)) / 2 ^ (i % 8)) : Nat) : Int)), .inl (.int .i64 (((((b (i / 8)) / 2 ^ (i % 8)) % 2) : Nat) : Int)), x21, x22, x23, x24, x25, x26, x27, x28, x29, x30, x31, x32, x33, x34, x35, x36, x37, uu, uu] [(ck b, 23), (ai 22 (fun _ => 0), 35), (ai 44 (ofF (nb b 32) i), 95)] [(ck b, 23), (ai 22 (fun _ => 0), 35), (ai 44 (ofF (nb b 32) i), 95)] [#[], #[], #[]] [nn, nn, nn, ⟨none, none, some 0, false⟩, nn, nn, nn, nn, nn, nn, nn] (by kernel_rfl) (by kernel_rfl) (by kernel_rfl) (by kernel_rfl) (by kernel_rfl) (by kernel_rfl) (by kernel_rfl) (by kernel_rfl) ?_ ?_
    · refine ok_cons (ok_mv (Or.inl rfl) (by kernel_rfl) rfl (by kernel_rfl) (by kernel_rfl)) ?_
      refine ok_cons (ok_bin (x1 := .int .i64 ((i : Nat) : Int)) (u1 := .int .i64 ((8 : Nat) : Int)) (v := .int .i64 (((i / 8) : Nat) : Int)) (qu_i (m := i) (n := 8) (by decide) (by omega)) rfl (by kernel_rfl) rfl (by kernel_rfl) (by kernel_rfl) (by kernel_rfl) (by kernel_rfl) (by kernel_rfl)) ?_
      refine ok_cons (ok_iaddr (b := 0) (off := 0) (off' := (i / 8)) (u := .int .i64 (((i / 8) : Nat) : Int)) (ixK (i := (i / 8)) (by omega)) rfl (by kernel_rfl) rfl (by kernel_rfl) (by kernel_rfl) (by kernel_rfl) (by kernel_rfl)) ?_
      refine ok_cons (ok_load (b := 0) (off := (i / 8)) (c := ck b) (v := .int .u8 (((b (i / 8)) : Nat) : Int)) (ld_k (F := b) (i := (i / 8)) (t0 := 23) (by omega)) rfl (by kernel_rfl) rfl (by kernel_rfl) (by kernel_rfl) (by kernel_rfl)) ?_
      refine ok_cons (ok_mv (Or.inl rfl) (by kernel_rfl) rfl (by kernel_rfl) (by kernel_rfl)) ?_
      refine ok_cons (ok_bin (x1 := .int .i64 ((i : Nat) : Int)) (u1 := .int .i64 ((8 : Nat) : Int)) (v := .int .i64 (((i % 8) : Nat) : Int)) (re_i (m := i) (n := 8) (by decide)) rfl (by kernel_rfl) rfl (by kernel_rfl) (by kernel_rfl) (by kernel_rfl) (by kernel_rfl) (by kernel_rfl)) ?_
      refine ok_cons (ok_conv (x1 := .int .i64 (((i % 8) : Nat) : Int)) (v := .int .u64 (((i % 8) : Nat) : Int)) (cv_iu (n := (i % 8)) (by omega)) rfl (by kernel_rfl) rfl (by kernel_rfl) (by kernel_rfl) (by kernel_rfl)) ?_
      refine ok_cons (ok_bin (x1 := .int .u8 (((b (i / 8)) : Nat) : Int)) (u1 := .int .u64 (((i % 8) : Nat) : Int)) (v := .int .u8 ((((b (i / 8)) / 2 ^ (i % 8)) : Nat) : Int)) (sr_b (m := (b (i / 8))) (r := (i % 8)) (by omega)) rfl (by kernel_rfl) rfl (by kernel_rfl) (by kernel_rfl) (by kernel_rfl) (by kernel_rfl) (by kernel_rfl)) ?_
      refine ok_cons (ok_conv (x1 := .int .u8 ((((b (i / 8)) / 2 ^ (i % 8)) : Nat) : Int)) (v := .int .i64 ((((b (i / 8)) / 2 ^ (i % 8)) : Nat) : Int)) (cv_bi (n := ((b (i / 8)) / 2 ^ (i % 8))) (by omega)) rfl (by kernel_rfl) rfl (by kernel_rfl) (by kernel_rfl) (by kernel_rfl)) ?_
      refine ok_cons (ok_bin (x1 := .int .i64 ((((b (i / 8)) / 2 ^ (i % 8)) : Nat) : Int)) (u1 := .int .i64 ((2 : Nat) : Int)) (v := .int .i64 (((((b (i / 8)) / 2 ^ (i % 8)) % 2) : Nat) : Int)) (re_i (m := ((b (i / 8)) / 2 ^ (i % 8))) (n := 2) (by decide)) rfl (by kernel_rfl) rfl (by kernel_rfl) (by kernel_rfl) (by kernel_rfl) (by kernel_rfl) (by kernel_rfl)) ?_
      refine ok_cons (ok_mv (Or.inr rfl) (by kernel_rfl) rfl (by kernel_rfl) (by kernel_rfl)) ?_
      exact ok_nil
    clear h; intro β a w h
    refine sym_then ?_
    refine sym_seq ?_
    refine sym_seq ?_
    refine St.region h [.inl (.agg (ck b)), .inr (0, 0), .inr (1, 0), .inr (2, 0), .inl (.int .i64 ((i : Nat) : Int)), .inl (.int .i64 (((((b (i / 8)) / 2 ^ (i % 8)) % 2) : Nat) : Int)), .inl (.int .i64 ((0 : Nat) : Int)), .inl (.int .i64 ((i : Nat) : Int)), .inl (.bool true), x9, x10, .inl (.int .i64 ((i : Nat) : Int)), .inl (.int .i64 (((i / 8) : Nat) : Int)), .inr (0, (i / 8)), .inl (.int .u8 (((b (i / 8)) : Nat) : Int)), .inl (.int .i64 ((i : Nat) : Int)), .inl (.int .i64 (((i % 8) : Nat) : Int)), .inl (.int .u64 (((i % 8) : Nat) : Int)), .inl (.int .u8 ((((b (i / 8)) / 2 ^ (i % 8)) : Nat) : Int)), .inl (.int .i64 ((((b (i / 8)) / 2 ^ (i % 8)) : Nat) : Int)), .inl (.int .i64 (((((b (i / 8)) / 2 ^ (i % 8)) % 2) : Nat) : Int)), x21, x22, x23, x24, x25, x26, x27, x28, x29, x30, x31, x32, x33, x34, x35, x36, x37, uu, uu] [(ck b, 23), (ai 22 (fun _ => 0), 35), (ai 44 (ofF (nb b 32) i), 95)] [(ck b, 23), (ai 22 (fun _ => 0), 35), (ai 44 (ofF (nb b 32) i), 95)] [#[], #[], #[]] [nn] (by kernel_rfl) (by kernel_rfl) (by kernel_rfl) (by kernel_rfl) (by kernel_rfl) (by kernel_rfl) (by kernel_rfl) (by kernel_rfl) ?_ ?_
    · refine ok_cons (ok_mv (Or.inr rfl) (by kernel_rfl) rfl (by kernel_rfl) (by kernel_rfl)) ?_
      exact ok_nil
    clear h; intro β a w h
    refine sym_then ?_
    refine blk_in ?_
    replace h := St.sets h 5 (v := .int .i64 (((((b (i / 8)) / 2 ^ (i % 8)) % 2) : Nat) : Int)) (v' := .int .i64 (((btk (nb b 32) i 0) : Nat) : Int)) (s' := [.inl (.agg (ck b)), .inr (0, 0), .inr (1, 0), .inr (2, 0), .inl (.int .i64 ((i : Nat) : Int)), .inl (.int .i64 (((btk (nb b 32) i 0) : Nat) : Int)), .inl (.int .i64 ((0 : Nat) : Int)), .inl (.int .i64 ((i : Nat) : Int)), .inl (.bool true), x9, x10, .inl (.int .i64 ((i : Nat) : Int)), .inl (.int .i64 (((i / 8) : Nat) : Int)), .inr (0, (i / 8)), .inl (.int .u8 (((b (i / 8)) : Nat) : Int)), .inl (.int .i64 ((i : Nat) : Int)), .inl (.int .i64 (((i % 8) : Nat) : Int)), .inl (.int .u64 (((i % 8) : Nat) : Int)), .inl (.int .u8 ((((b (i / 8)) / 2 ^ (i % 8)) : Nat) : Int)), .inl (.int .i64 ((((b (i / 8)) / 2 ^ (i % 8)) : Nat) : Int)), .inl (.int .i64 (((((b (i / 8)) / 2 ^ (i % 8)) % 2) : Nat) : Int)), x21, x22, x23, x24, x25, x26, x27, x28, x29, x30, x31, x32, x33, x34, x35, x36, x37, uu, uu]) (ic (bt_byte hb (by omega))) (by kernel_rfl) (by kernel_rfl)
    refine loop_up (i % 12) (fun k a w => ∃ (x21 x22 x23 x24 x25 x26 x27 x28 : SV) (β : Nat → Nat), St W0 [.inl (.agg (ck b)), .inr (0, 0), .inr (1, 0), .inr (2, 0), .inl (.int .i64 ((i : Nat) : Int)), .inl (.int .i64 (((btk (nb b 32) i k) : Nat) : Int)), .inl (.int .i64 ((k : Nat) : Int)), .inl (.int .i64 ((i : Nat) : Int)), .inl (.bool true), x9, x10, .inl (.int .i64 ((i : Nat) : Int)), .inl (.int .i64 (((i / 8) : Nat) : Int)), .inr (0, (i / 8)), .inl (.int .u8 (((b (i / 8)) : Nat) : Int)), .inl (.int .i64 ((i : Nat) : Int)), .inl (.int .i64 (((i % 8) : Nat) : Int)), .inl (.int .u64 (((i % 8) : Nat) : Int)), .inl (.int .u8 ((((b (i / 8)) / 2 ^ (i % 8)) : Nat) : Int)), .inl (.int .i64 ((((b (i / 8)) / 2 ^ (i % 8)) : Nat) : Int)), .inl (.int .i64 (((((b (i / 8)) / 2 ^ (i % 8)) % 2) : Nat) : Int)), x21, x22, x23, x24, x25, x26, x27, x28, x29, x30, x31, x32, x33, x34, x35, x36, x37, uu, uu] [(ck b, 23), (ai 22 (fun _ => 0), 35), (ai 44 (ofF (nb b 32) i), 95)] β a w) ⟨_, _, _, _, _, _, _, _, β, h⟩ ?_
    clear h; rintro k a w hkk ⟨x21, x22, x23, x24, x25, x26, x27, x28, β, h⟩
    have g7 := btk_le (nb b 32) i (k := k) (by omega)
    rcases Nat.lt_or_ge k (i % 12) with hltk | hgek
    · refine sym_seq ?_
      refine sym_seq ?_
      refine St.region h [.inl (.agg (ck b)), .inr (0, 0), .inr (1, 0), .inr (2, 0), .inl (.int .i64 ((i : Nat) : Int)), .inl (.int .i64 (((btk (nb b 32) i k) : Nat) : Int)), .inl (.int .i64 ((k : Nat) : Int)), .inl (.int .i64 ((i : Nat) : Int)), .inl (.bool true), x9, x10, .inl (.int .i64 ((i : Nat) : Int)), .inl (.int .i64 (((i / 8) : Nat) : Int)), .inr (0, (i / 8)), .inl (.int .u8 (((b (i / 8)) : Nat) : Int)), .inl (.int .i64 ((i : Nat) : Int)), .inl (.int .i64 (((i % 8) : Nat) : Int)), .inl (.int .u64 (((i % 8) : Nat) : Int)), .inl (.int .u8 ((((b (i / 8)) / 2 ^ (i % 8)) : Nat) : Int)), .inl (.int .i64 ((((b (i / 8)) / 2 ^ (i % 8)) : Nat) : Int)), .inl (.int .i64 (((((b (i / 8)) / 2 ^ (i % 8)) % 2) : Nat) : Int)), .inl (.int .i64 ((k : Nat) : Int)), .inl (.int .i64 ((i : Nat) : Int)), .inl (.int .i64 (((i % 12) : Nat) : Int)), .inl (.bool true), x25, x26, x27, x28, x29, x30, x31, x32, x33, x34, x35, x36, x37, uu, uu] [(ck b, 23), (ai 22 (fun _ => 0), 35), (ai 44 (ofF (nb b 32) i), 95)] [(ck b, 23), (ai 22 (fun _ => 0), 35), (ai 44 (ofF (nb b 32) i), 95)] [#[], #[], #[]] [nn, nn, nn, nn] (by kernel_rfl) (by kernel_rfl) (by kernel_rfl) (by kernel_rfl) (by kernel_rfl) (by kernel_rfl) (by kernel_rfl) (by kernel_rfl) ?_ ?_
      · refine ok_cons (ok_mv (Or.inl rfl) (by kernel_rfl) rfl (by kernel_rfl) (by kernel_rfl)) ?_
        refine ok_cons (ok_mv (Or.inl rfl) (by kernel_rfl) rfl (by kernel_rfl) (by kernel_rfl)) ?_
        refine ok_cons (ok_bin (x1 := .int .i64 ((i : Nat) : Int)) (u1 := .int .i64 ((12 : Nat) : Int)) (v := .int .i64 (((i % 12) : Nat) : Int)) (re_i (m := i) (n := 12) (by decide)) rfl (by kernel_rfl) rfl (by kernel_rfl) (by kernel_rfl) (by kernel_rfl) (by kernel_rfl) (by kernel_rfl)) ?_
        refine ok_cons (ok_bin (x1 := .int .i64 ((k : Nat) : Int)) (u1 := .int .i64 (((i % 12) : Nat) : Int)) (v := .bool true) (lt_i (m := ((k : Nat) : Int)) (n := (((i % 12) : Nat) : Int)) (decide_eq_true (by omega))) rfl (by kernel_rfl) rfl (by kernel_rfl) (by kernel_rfl) (by kernel_rfl) (by kernel_rfl) (by kernel_rfl)) ?_
        exact ok_nil
      clear h; intro β a w h
      refine sym_then ?_
      refine sym_cond_t h (by kernel_rfl) (by kernel_rfl) ?_
      refine wp_skip ?_
      refine sym_then ?_
      refine sym_seq ?_
      refine blk_in ?_
      refine St.region h [.inl (.agg (ck b)), .inr (0, 0), .inr (1, 0), .inr (2, 0), .inl (.int .i64 ((i : Nat) : Int)), .inl (.int .i64 (((2 * (btk (nb b 32) i k)) : Nat) : Int)), .inl (.int .i64 ((k : Nat) : Int)), .inl (.int .i64 ((i : Nat) : Int)), .inl (.bool true), x9, x10, .inl (.int .i64 ((i : Nat) : Int)), .inl (.int .i64 (((i / 8) : Nat) : Int)), .inr (0, (i / 8)), .inl (.int .u8 (((b (i / 8)) : Nat) : Int)), .inl (.int .i64 ((i : Nat) : Int)), .inl (.int .i64 (((i % 8) : Nat) : Int)), .inl (.int .u64 (((i % 8) : Nat) : Int)), .inl (.int .u8 ((((b (i / 8)) / 2 ^ (i % 8)) : Nat) : Int)), .inl (.int .i64 ((((b (i / 8)) / 2 ^ (i % 8)) : Nat) : Int)), .inl (.int .i64 (((((b (i / 8)) / 2 ^ (i % 8)) % 2) : Nat) : Int)), .inl (.int .i64 ((k : Nat) : Int)), .inl (.int .i64 ((i : Nat) : Int)), .inl (.int .i64 (((i % 12) : Nat) : Int)), .inl (.bool true), x25, x26, .inl (.int .i64 (((btk (nb b 32) i k) : Nat) : Int)), .inl (.int .i64 (((2 * (btk (nb b 32) i k)) : Nat) : Int)), x29, x30, x31, x32, x33, x34, x35, x36, x37, uu, uu] [(ck b, 23), (ai 22 (fun _ => 0), 35), (ai 44 (ofF (nb b 32) i), 95)] [(ck b, 23), (ai 22 (fun _ => 0), 35), (ai 44 (ofF (nb b 32) i), 95)] [#[], #[], #[]] [⟨none, none, none, true⟩, nn, nn] (by kernel_rfl) (by kernel_rfl) (by kernel_rfl) (by kernel_rfl) (by kernel_rfl) (by kernel_rfl) (by kernel_rfl) (by kernel_rfl) ?_ ?_
      · refine ok_cons (ok_mv0 rfl (by kernel_rfl) rfl (by kernel_rfl) (by kernel_rfl)) ?_
        refine ok_cons (ok_bin (x1 := .int .i64 ((2 : Nat) : Int)) (u1 := .int .i64 (((btk (nb b 32) i k) : Nat) : Int)) (v := .int .i64 (((2 * (btk (nb b 32) i k)) : Nat) : Int)) (mu_i (m := 2) (n := (btk (nb b 32) i k)) (by omega)) rfl (by kernel_rfl) rfl (by kernel_rfl) (by kernel_rfl) (by kernel_rfl) (by kernel_rfl) (by kernel_rfl)) ?_
        refine ok_cons (ok_mv (Or.inr rfl) (by kernel_rfl) rfl (by kernel_rfl) (by kernel_rfl)) ?_
        exact ok_nil
      clear h; intro β a w h
      refine blk_norm ?_
      refine sym_then ?_
      refine St.region h [.inl (.agg (ck b)), .inr (0, 0), .inr (1, 0), .inr (2, 0), .inl (.int .i64 ((i : Nat) : Int)), .inl (.int .i64 (((2 * (btk (nb b 32) i k)) : Nat) : Int)), .inl (.int .i64 (((k + 1) : Nat) : Int)), .inl (.int .i64 ((i : Nat) : Int)), .inl (.bool true), x9, x10, .inl (.int .i64 ((i : Nat) : Int)), .inl (.int .i64 (((i / 8) : Nat) : Int)), .inr (0, (i / 8)), .inl (.int .u8 (((b (i / 8)) : Nat) : Int)), .inl (.int .i64 ((i : Nat) : Int)), .inl (.int .i64 (((i % 8) : Nat) : Int)), .inl (.int .u64 (((i % 8) : Nat) : Int)), .inl (.int .u8 ((((b (i / 8)) / 2 ^ (i % 8)) : Nat) : Int)), .inl (.int .i64 ((((b (i / 8)) / 2 ^ (i % 8)) : Nat) : Int)), .inl (.int .i64 (((((b (i / 8)) / 2 ^ (i % 8)) % 2) : Nat) : Int)), .inl (.int .i64 ((k : Nat) : Int)), .inl (.int .i64 ((i : Nat) : Int)), .inl (.int .i64 (((i % 12) : Nat) : Int)), .inl (.bool true), .inl (.int .i64 ((k : Nat) : Int)), .inl (.int .i64 (((k + 1) : Nat) : Int)), .inl (.int .i64 (((btk (nb b 32) i k) : Nat) : Int)), .inl (.int .i64 (((2 * (btk (nb b 32) i k)) : Nat) : Int)), x29, x30, x31, x32, x33, x34, x35, x36, x37, uu, uu] [(ck b, 23), (ai 22 (fun _ => 0), 35), (ai 44 (ofF (nb b 32) i), 95)] [(ck b, 23), (ai 22 (fun _ => 0), 35), (ai 44 (ofF (nb b 32) i), 95)] [#[], #[], #[]] [⟨none, none, none, true⟩, nn, nn] (by kernel_rfl) (by kernel_rfl) (by kernel_rfl) (by kernel_rfl) (by kernel_rfl) (by kernel_rfl) (by kernel_rfl) (by kernel_rfl) ?_ ?_
      · refine ok_cons (ok_mv0 rfl (by kernel_rfl) rfl (by kernel_rfl) (by kernel_rfl)) ?_
        refine ok_cons (ok_bin (x1 := .int .i64 ((k : Nat) : Int)) (u1 := .int .i64 ((1 : Nat) : Int)) (v := .int .i64 (((k + 1) : Nat) : Int)) (ad_i (m := k) (n := 1) (by omega)) rfl (by kernel_rfl) rfl (by kernel_rfl) (by kernel_rfl) (by kernel_rfl) (by kernel_rfl) (by kernel_rfl)) ?_
        refine ok_cons (ok_mv (Or.inr rfl) (by kernel_rfl) rfl (by kernel_rfl) (by kernel_rfl)) ?_
        exact ok_nil
      clear h; intro β a w h
      replace h := St.sets h 5 (v := .int .i64 (((2 * (btk (nb b 32) i k)) : Nat) : Int)) (v' := .int .i64 (((btk (nb b 32) i (k + 1)) : Nat) : Int)) (s' := [.inl (.agg (ck b)), .inr (0, 0), .inr (1, 0), .inr (2, 0), .inl (.int .i64 ((i : Nat) : Int)), .inl (.int .i64 (((btk (nb b 32) i (k + 1)) : Nat) : Int)), .inl (.int .i64 (((k + 1) : Nat) : Int)), .inl (.int .i64 ((i : Nat) : Int)), .inl (.bool true), x9, x10, .inl (.int .i64 ((i : Nat) : Int)), .inl (.int .i64 (((i / 8) : Nat) : Int)), .inr (0, (i / 8)), .inl (.int .u8 (((b (i / 8)) : Nat) : Int)), .inl (.int .i64 ((i : Nat) : Int)), .inl (.int .i64 (((i % 8) : Nat) : Int)), .inl (.int .u64 (((i % 8) : Nat) : Int)), .inl (.int .u8 ((((b (i / 8)) / 2 ^ (i % 8)) : Nat) : Int)), .inl (.int .i64 ((((b (i / 8)) / 2 ^ (i % 8)) : Nat) : Int)), .inl (.int .i64 (((((b (i / 8)) / 2 ^ (i % 8)) % 2) : Nat) : Int)), .inl (.int .i64 ((k : Nat) : Int)), .inl (.int .i64 ((i : Nat) : Int)), .inl (.int .i64 (((i % 12) : Nat) : Int)), .inl (.bool true), .inl (.int .i64 ((k : Nat) : Int)), .inl (.int .i64 (((k + 1) : Nat) : Int)), .inl (.int .i64 (((btk (nb b 32) i k) : Nat) : Int)), .inl (.int .i64 (((2 * (btk (nb b 32) i k)) : Nat) : Int)), x29, x30, x31, x32, x33, x34, x35, x36, x37, uu, uu]) (ic (btk_next _ _ _)) (by kernel_rfl) (by kernel_rfl)
      exact ⟨hltk, _, _, _, _, _, _, _, _, _, h⟩
    · obtain rfl : k = (i % 12) := by omega
      refine sym_seq ?_
      refine sym_seq ?_
      refine St.region h [.inl (.agg (ck b)), .inr (0, 0), .inr (1, 0), .inr (2, 0), .inl (.int .i64 ((i : Nat) : Int)), .inl (.int .i64 (((btk (nb b 32) i (i % 12)) : Nat) : Int)), .inl (.int .i64 (((i % 12) : Nat) : Int)), .inl (.int .i64 ((i : Nat) : Int)), .inl (.bool true), x9, x10, .inl (.int .i64 ((i : Nat) : Int)), .inl (.int .i64 (((i / 8) : Nat) : Int)), .inr (0, (i / 8)), .inl (.int .u8 (((b (i / 8)) : Nat) : Int)), .inl (.int .i64 ((i : Nat) : Int)), .inl (.int .i64 (((i % 8) : Nat) : Int)), .inl (.int .u64 (((i % 8) : Nat) : Int)), .inl (.int .u8 ((((b (i / 8)) / 2 ^ (i % 8)) : Nat) : Int)), .inl (.int .i64 ((((b (i / 8)) / 2 ^ (i % 8)) : Nat) : Int)), .inl (.int .i64 (((((b (i / 8)) / 2 ^ (i % 8)) % 2) : Nat) : Int)), .inl (.int .i64 (((i % 12) : Nat) : Int)), .inl (.int .i64 ((i : Nat) : Int)), .inl (.int .i64 (((i % 12) : Nat) : Int)), .inl (.bool false), x25, x26, x27, x28, x29, x30, x31, x32, x33, x34, x35, x36, x37, uu, uu] [(ck b, 23), (ai 22 (fun _ => 0), 35), (ai 44 (ofF (nb b 32) i), 95)] [(ck b, 23), (ai 22 (fun _ => 0), 35), (ai 44 (ofF (nb b 32) i), 95)] [#[], #[], #[]] [nn, nn, nn, nn] (by kernel_rfl) (by kernel_rfl) (by kernel_rfl) (by kernel_rfl) (by kernel_rfl) (by kernel_rfl) (by kernel_rfl) (by kernel_rfl) ?_ ?_
      · refine ok_cons (ok_mv (Or.inl rfl) (by kernel_rfl) rfl (by kernel_rfl) (by kernel_rfl)) ?_
        refine ok_cons (ok_mv (Or.inl rfl) (by kernel_rfl) rfl (by kernel_rfl) (by kernel_rfl)) ?_
        refine ok_cons (ok_bin (x1 := .int .i64 ((i : Nat) : Int)) (u1 := .int .i64 ((12 : Nat) : Int)) (v := .int .i64 (((i % 12) : Nat) : Int)) (re_i (m := i) (n := 12) (by decide)) rfl (by kernel_rfl) rfl (by kernel_rfl) (by kernel_rfl) (by kernel_rfl) (by kernel_rfl) (by kernel_rfl)) ?_
        refine ok_cons (ok_bin (x1 := .int .i64 (((i % 12) : Nat) : Int)) (u1 := .int .i64 (((i % 12) : Nat) : Int)) (v := .bool false) (lt_i (m := (((i % 12) : Nat) : Int)) (n := (((i % 12) : Nat) : Int)) (decide_eq_false (by omega))) rfl (by kernel_rfl) rfl (by kernel_rfl) (by kernel_rfl) (by kernel_rfl) (by kernel_rfl) (by kernel_rfl)) ?_
        exact ok_nil
      clear h; intro β a w h
      refine sym_then ?_
      refine sym_cond_f h (by kernel_rfl) (by kernel_rfl) ?_
      refine wp_exit ?_
      refine then_exit ?_
      refine then_exit ?_
      refine blk_exit ?_
      refine sym_then ?_
      refine St.region h [.inl (.agg (ck b)), .inr (0, 0), .inr (1, 0), .inr (2, 0), .inl (.int .i64 ((i : Nat) : Int)), .inl (.int .i64 (((btk (nb b 32) i (i % 12)) : Nat) : Int)), .inl (.int .i64 (((i % 12) : Nat) : Int)), .inl (.int .i64 ((i : Nat) : Int)), .inl (.bool true), x9, x10, .inl (.int .i64 ((i : Nat) : Int)), .inl (.int .i64 (((i / 8) : Nat) : Int)), .inr (0, (i / 8)), .inl (.int .u8 (((b (i / 8)) : Nat) : Int)), .inl (.int .i64 ((i : Nat) : Int)), .inl (.int .i64 (((i % 8) : Nat) : Int)), .inl (.int .u64 (((i % 8) : Nat) : Int)), .inl (.int .u8 ((((b (i / 8)) / 2 ^ (i % 8)) : Nat) : Int)), .inl (.int .i64 ((((b (i / 8)) / 2 ^ (i % 8)) : Nat) : Int)), .inl (.int .i64 (((((b (i / 8)) / 2 ^ (i % 8)) % 2) : Nat) : Int)), .inl (.int .i64 (((i % 12) : Nat) : Int)), .inl (.int .i64 ((i : Nat) : Int)), .inl (.int .i64 (((i % 12) : Nat) : Int)), .inl (.bool false), x25, x26, x27, x28, .inl (.int .i64 ((i : Nat) : Int)), .inl (.int .i64 (((i / 12) : Nat) : Int)), .inl (.int .i64 ((i : Nat) : Int)), .inl (.int .i64 (((i / 12) : Nat) : Int)), .inr (2, (i / 12)), .inl (.int .i64 ((((ofF (nb b 32) i) (i / 12)) : Nat) : Int)), .inl (.int .i64 (((btk (nb b 32) i (i % 12)) : Nat) : Int)), .inl (.int .i64 (((((ofF (nb b 32) i) (i / 12)) + (btk (nb b 32) i (i % 12))) : Nat) : Int)), .inr (2, (i / 12)), uu, uu] [(ck b, 23), (ai 22 (fun _ => 0), 35), (ai 44 (updN (ofF (nb b 32) i) (i / 12) (((ofF (nb b 32) i) (i / 12)) + (btk (nb b 32) i (i % 12)))), 95)] [(ck b, 23), (ai 22 (fun _ => 0), 35), (ai 44 (ofF (nb b 32) i), 95)] [#[], #[], ai 44 (updN (ofF (nb b 32) i) (i / 12) (((ofF (nb b 32) i) (i / 12)) + (btk (nb b 32) i (i % 12))))] [nn, nn, nn, nn, nn, ⟨none, none, some 2, false⟩, nn, nn, nn, ⟨none, some 2, none, false⟩] (by kernel_rfl) (by kernel_rfl) (by kernel_rfl) (by kernel_rfl) (by kernel_rfl) (by kernel_rfl) (by kernel_rfl) (by kernel_rfl) ?_ ?_
      · refine ok_cons (ok_mv (Or.inl rfl) (by kernel_rfl) rfl (by kernel_rfl) (by kernel_rfl)) ?_
        refine ok_cons (ok_bin (x1 := .int .i64 ((i : Nat) : Int)) (u1 := .int .i64 ((12 : Nat) : Int)) (v := .int .i64 (((i / 12) : Nat) : Int)) (qu_i (m := i) (n := 12) (by decide) (by omega)) rfl (by kernel_rfl) rfl (by kernel_rfl) (by kernel_rfl) (by kernel_rfl) (by kernel_rfl) (by kernel_rfl)) ?_
        refine ok_cons (ok_mv (Or.inl rfl) (by kernel_rfl) rfl (by kernel_rfl) (by kernel_rfl)) ?_
        refine ok_cons (ok_bin (x1 := .int .i64 ((i : Nat) : Int)) (u1 := .int .i64 ((12 : Nat) : Int)) (v := .int .i64 (((i / 12) : Nat) : Int)) (qu_i (m := i) (n := 12) (by decide) (by omega)) rfl (by kernel_rfl) rfl (by kernel_rfl) (by kernel_rfl) (by kernel_rfl) (by kernel_rfl) (by kernel_rfl)) ?_
        refine ok_cons (ok_iaddr (b := 2) (off := 0) (off' := (i / 12)) (u := .int .i64 (((i / 12) : Nat) : Int)) (ix44 (i := (i / 12)) (by omega)) rfl (by kernel_rfl) rfl (by kernel_rfl) (by kernel_rfl) (by kernel_rfl) (by kernel_rfl)) ?_
        refine ok_cons (ok_load (b := 2) (off := (i / 12)) (c := ai 44 (ofF (nb b 32) i)) (v := .int .i64 ((((ofF (nb b 32) i) (i / 12)) : Nat) : Int)) (ld_at (n := 44) (F := (ofF (nb b 32) i)) (i := (i / 12)) (t0 := 95) (by omega)) rfl (by kernel_rfl) rfl (by kernel_rfl) (by kernel_rfl) (by kernel_rfl)) ?_
        refine ok_cons (ok_mv (Or.inl rfl) (by kernel_rfl) rfl (by kernel_rfl) (by kernel_rfl)) ?_
        refine ok_cons (ok_bin (x1 := .int .i64 ((((ofF (nb b 32) i) (i / 12)) : Nat) : Int)) (u1 := .int .i64 (((btk (nb b 32) i (i % 12)) : Nat) : Int)) (v := .int .i64 (((((ofF (nb b 32) i) (i / 12)) + (btk (nb b 32) i (i % 12))) : Nat) : Int)) (ad_i (m := ((ofF (nb b 32) i) (i / 12))) (n := (btk (nb b 32) i (i % 12))) (by omega)) rfl (by kernel_rfl) rfl (by kernel_rfl) (by kernel_rfl) (by kernel_rfl) (by kernel_rfl) (by kernel_rfl)) ?_
        refine ok_cons (ok_iaddr (b := 2) (off := 0) (off' := (i / 12)) (u := .int .i64 (((i / 12) : Nat) : Int)) (ix44 (i := (i / 12)) (by omega)) rfl (by kernel_rfl) rfl (by kernel_rfl) (by kernel_rfl) (by kernel_rfl) (by kernel_rfl)) ?_
        refine ok_cons (ok_store (b := 2) (off := (i / 12)) (u := .int .i64 (((((ofF (nb b 32) i) (i / 12)) + (btk (nb b 32) i (i % 12))) : Nat) : Int)) (c := ai 44 (ofF (nb b 32) i)) (n := ai 44 (updN (ofF (nb b 32) i) (i / 12) (((ofF (nb b 32) i) (i / 12)) + (btk (nb b 32) i (i % 12))))) (st_at (n := 44) (F := (ofF (nb b 32) i)) (i := (i / 12)) (v := (((ofF (nb b 32) i) (i / 12)) + (btk (nb b 32) i (i % 12)))) (t0 := 95) (by omega)) rfl (by kernel_rfl) rfl (by kernel_rfl) (by kernel_rfl) (by kernel_rfl) (by kernel_rfl) (by kernel_rfl)) ?_
        exact ok_nil
      clear h; intro β a w h
      refine blk_norm ?_
      refine sym_then ?_
      refine St.region h [.inl (.agg (ck b)), .inr (0, 0), .inr (1, 0), .inr (2, 0), .inl (.int .i64 (((i + 1) : Nat) : Int)), .inl (.int .i64 (((btk (nb b 32) i (i % 12)) : Nat) : Int)), .inl (.int .i64 (((i % 12) : Nat) : Int)), .inl (.int .i64 ((i : Nat) : Int)), .inl (.bool true), .inl (.int .i64 ((i : Nat) : Int)), .inl (.int .i64 (((i + 1) : Nat) : Int)), .inl (.int .i64 ((i : Nat) : Int)), .inl (.int .i64 (((i / 8) : Nat) : Int)), .inr (0, (i / 8)), .inl (.int .u8 (((b (i / 8)) : Nat) : Int)), .inl (.int .i64 ((i : Nat) : Int)), .inl (.int .i64 (((i % 8) : Nat) : Int)), .inl (.int .u64 (((i % 8) : Nat) : Int)), .inl (.int .u8 ((((b (i / 8)) / 2 ^ (i % 8)) : Nat) : Int)), .inl (.int .i64 ((((b (i / 8)) / 2 ^ (i % 8)) : Nat) : Int)), .inl (.int .i64 (((((b (i / 8)) / 2 ^ (i % 8)) % 2) : Nat) : Int)), .inl (.int .i64 (((i % 12) : Nat) : Int)), .inl (.int .i64 ((i : Nat) : Int)), .inl (.int .i64 (((i % 12) : Nat) : Int)), .inl (.bool false), x25, x26, x27, x28, .inl (.int .i64 ((i : Nat) : Int)), .inl (.int .i64 (((i / 12) : Nat) : Int)), .inl (.int .i64 ((i : Nat) : Int)), .inl (.int .i64 (((i / 12) : Nat) : Int)), .inr (2, (i / 12)), .inl (.int .i64 ((((ofF (nb b 32) i) (i / 12)) : Nat) : Int)), .inl (.int .i64 (((btk (nb b 32) i (i % 12)) : Nat) : Int)), .inl (.int .i64 (((((ofF (nb b 32) i) (i / 12)) + (btk (nb b 32) i (i % 12))) : Nat) : Int)), .inr (2, (i / 12)), uu, uu] [(ck b, 23), (ai 22 (fun _ => 0), 35), (ai 44 (updN (ofF (nb b 32) i) (i / 12) (((ofF (nb b 32) i) (i / 12)) + (btk (nb b 32) i (i % 12)))), 95)] [(ck b, 23), (ai 22 (fun _ => 0), 35), (ai 44 (updN (ofF (nb b 32) i) (i / 12) (((ofF (nb b 32) i) (i / 12)) + (btk (nb b 32) i (i % 12)))), 95)] [#[], #[], #[]] [⟨none, none, none, true⟩, nn, nn] (by kernel_rfl) (by kernel_rfl) (by kernel_rfl) (by kernel_rfl) (by kernel_rfl) (by kernel_rfl) (by kernel_rfl) (by kernel_rfl) ?_ ?_
      · refine ok_cons (ok_mv0 rfl (by kernel_rfl) rfl (by kernel_rfl) (by kernel_rfl)) ?_
        refine ok_cons (ok_bin (x1 := .int .i64 ((i : Nat) : Int)) (u1 := .int .i64 ((1 : Nat) : Int)) (v := .int .i64 (((i + 1) : Nat) : Int)) (ad_i (m := i) (n := 1) (by omega)) rfl (by kernel_rfl) rfl (by kernel_rfl) (by kernel_rfl) (by kernel_rfl) (by kernel_rfl) (by kernel_rfl)) ?_
        refine ok_cons (ok_mv (Or.inr rfl) (by kernel_rfl) rfl (by kernel_rfl) (by kernel_rfl)) ?_
        exact ok_nil
      clear h; intro β a w h
      replace h := St.setm h 2 (c := ai 44 (updN (ofF (nb b 32) i) (i / 12) (((ofF (nb b 32) i) (i / 12)) + (btk (nb b 32) i (i % 12))))) (c' := ai 44 (ofF (nb b 32) (i + 1))) (t := 95) (m' := [(ck b, 23), (ai 22 (fun _ => 0), 35), (ai 44 (ofF (nb b 32) (i + 1)), 95)]) (ofF_next _ _) (by kernel_rfl) (by kernel_rfl)
      exact ⟨hlti, _, _, _, _, _, _, _, _, _, _, _, _, _, _, _, _, _, _, _, _, _, _, _, _, _, _, _, _, _, _, _, _, _, _, h⟩
  · obtain rfl : i = 255 := by omega
    refine sym_seq ?_
    refine sym_seq ?_
    refine St.region h [.inl (.agg (ck b)), .inr (0, 0), .inr (1, 0), .inr (2, 0), .inl (.int .i64 ((255 : Nat) : Int)), x5, x6, .inl (.int .i64 ((255 : Nat) : Int)), .inl (.bool false), x9, x10, x11, x12, x13, x14, x15, x16, x17, x18, x19, x20, x21, x22, x23, x24, x25, x26, x27, x28, x29, x30, x31, x32, x33, x34, x35, x36, x37, uu, uu] [(ck b, 23), (ai 22 (fun _ => 0), 35), (ai 44 (ofF (nb b 32) 255), 95)] [(ck b, 23), (ai 22 (fun _ => 0), 35), (ai 44 (ofF (nb b 32) 255), 95)] [#[], #[], #[]] [nn, nn] (by kernel_rfl) (by kernel_rfl) (by kernel_rfl) (by kernel_rfl) (by kernel_rfl) (by kernel_rfl) (by kernel_rfl) (by kernel_rfl) ?_ ?_
    · refine ok_cons (ok_mv (Or.inl rfl) (by kernel_rfl) rfl (by kernel_rfl) (by kernel_rfl)) ?_
      refine ok_cons (ok_bin (x1 := .int .i64 ((255 : Nat) : Int)) (u1 := .int .i64 ((255 : Nat) : Int)) (v := .bool false) (lt_i (m := ((255 : Nat) : Int)) (n := ((255 : Nat) : Int)) (decide_eq_false (by omega))) rfl (by kernel_rfl) rfl (by kernel_rfl) (by kernel_rfl) (by kernel_rfl) (by kernel_rfl) (by kernel_rfl)) ?_
      exact ok_nil
    clear h; intro β a w h
    refine sym_then ?_
    refine sym_cond_f h (by kernel_rfl) (by kernel_rfl) ?_
    refine wp_exit ?_
    refine then_exit ?_
    refine then_exit ?_
    refine blk_exit ?_
    refine sym_then ?_
    refine sym_seq ?_
    refine St.region h [.inl (.agg (ck b)), .inr (0, 0), .inr (1, 0), .inr (2, 0), .inl (.int .i64 ((255 : Nat) : Int)), x5, x6, .inl (.int .i64 ((255 : Nat) : Int)), .inl (.bool false), x9, x10, x11, x12, x13, x14, x15, x16, x17, x18, x19, x20, x21, x22, x23, x24, x25, x26, x27, x28, x29, x30, x31, x32, x33, x34, x35, x36, x37, .inl (.agg (ai 44 (ofF (nb b 32) 255))), .inl (.agg (ai 22 (dg (ofb b))))] [(ck b, 23), (ai 22 (dg (ofb b)), 35), (ai 44 (ofF (nb b 32) 255), 95)] [(ck b, 23), (ai 22 (fun _ => 0), 35), (ai 44 (ofF (nb b 32) 255), 95)] [#[], ai 22 (dg (ofb b)), #[]] [⟨none, none, some 2, false⟩, nn, ⟨none, some 1, none, false⟩] (by kernel_rfl) (by kernel_rfl) (by kernel_rfl) (by kernel_rfl) (by kernel_rfl) (by kernel_rfl) (by kernel_rfl) (by kernel_rfl) ?_ ?_
    · refine ok_cons (ok_load (b := 2) (off := 0) (c := ai 44 (ofF (nb b 32) 255)) (v := .agg (ai 44 (ofF (nb b 32) 255))) (ld44 (F := (ofF (nb b 32) 255)) 95) rfl (by kernel_rfl) rfl (by kernel_rfl) (by kernel_rfl) (by kernel_rfl)) ?_
      refine ok_cons (ok_call (vs := #[.agg (ai 44 (ofF (nb b 32) 255))]) (R := .agg (ai 22 (dg (ofb b)))) (fun w => of_least b w) rfl (by kernel_rfl) rfl (by kernel_rfl) (by kernel_rfl) (by kernel_rfl) (fun w => by kernel_rfl)) ?_
      refine ok_cons (ok_store (b := 1) (off := 0) (u := .agg (ai 22 (dg (ofb b)))) (c := ai 22 (fun _ => 0)) (n := ai 22 (dg (ofb b))) (st22 (F := (dg (ofb b))) (c := ai 22 (fun _ => 0)) 35 (ai_size _ _)) rfl (by kernel_rfl) rfl (by kernel_rfl) (by kernel_rfl) (by kernel_rfl) (by kernel_rfl) (by kernel_rfl)) ?_
      exact ok_nil
    clear h; intro β a w h
    refine sym_then ?_
    refine wp_ret ?_
    exact sym_retc (b := 1) (t0 := 35) (c := ai 22 (dg (ofb b))) h Try.results34 (by kernel_rfl) (by kernel_rfl) (by kernel_rfl) Try.underlying35 rfl (by rw [ai_size]; kernel_rfl) (fun hb => ⟨rfl, hb⟩)
set_option maxHeartbeats 4000000 in
theorem key_r {n : Nat} (hn : n < 2 ^ 256) (W0 : World) : Calls Try.prog 35 #[.agg (ai 22 (dg n))] W0 fun e w' => e = .returned (.agg (ck (kb n))) ∧ Below W0.heap.size W0 w' := by
  rw [← keF_end hn]
  refine sym_enter Try.func35 Try.ntmps35 rfl [.inl (.agg (ai 22 (dg n))), uu, uu, uu, uu, uu, uu, uu, uu, uu, uu, uu, uu, uu, uu, uu, uu, uu, uu, uu, uu, uu, uu, uu, uu, uu, uu, uu, uu, uu, uu, uu, uu, uu, uu, uu, uu] (by kernel_rfl) (by kernel_rfl) ?_
  intro β a h
  refine sym_seq ?_
  refine St.region h [.inl (.agg (ai 22 (dg n))), .inr (0, 0), .inr (1, 0), uu, uu, uu, uu, uu, uu, uu, uu, uu, uu, uu, uu, uu, uu, uu, uu, uu, uu, uu, uu, uu, uu, uu, uu, uu, uu, uu, uu, uu, uu, uu, uu, uu, uu] [(ai 22 (dg n), 35), (ck (fun _ => 0), 23)] [(ai 22 (dg n), 35), (ck (fun _ => 0), 23)] [#[], #[]] [⟨some 0, none, none, false⟩, ⟨some 1, none, none, false⟩] (by kernel_rfl) (by kernel_rfl) (by kernel_rfl) (by kernel_rfl) (by kernel_rfl) (by kernel_rfl) (by kernel_rfl) (by kernel_rfl) ?_ ?_
  · refine ok_cons (ok_box (b := 0) (u := .agg (ai 22 (dg n))) (bx22 (F := (dg n))) rfl (by kernel_rfl) rfl (by kernel_rfl) (by kernel_rfl) (by kernel_rfl) (by kernel_rfl)) ?_
    refine ok_cons (ok_alloc (b := 1) alK rfl (by kernel_rfl) rfl (by kernel_rfl) (by kernel_rfl)) ?_
    exact ok_nil
  clear h; intro β a w h
  refine sym_then ?_
  refine sym_seq ?_
  refine St.region h [.inl (.agg (ai 22 (dg n))), .inr (0, 0), .inr (1, 0), .inr (2, 0), uu, uu, uu, uu, uu, uu, uu, uu, uu, uu, uu, uu, uu, uu, uu, uu, uu, uu, uu, uu, uu, uu, uu, uu, uu, uu, uu, uu, uu, uu, uu, uu, uu] [(ai 22 (dg n), 35), (ck (fun _ => 0), 23), (ck (fun _ => 0), 23)] [(ai 22 (dg n), 35), (ck (fun _ => 0), 23), (ck (fun _ => 0), 23)] [#[], #[], #[]] [⟨some 2, none, none, false⟩] (by kernel_rfl) (by kernel_rfl) (by kernel_rfl) (by kernel_rfl) (by kernel_rfl) (by kernel_rfl) (by kernel_rfl) (by kernel_rfl) ?_ ?_
  · refine ok_cons (ok_alloc (b := 2) alK rfl (by kernel_rfl) rfl (by kernel_rfl) (by kernel_rfl)) ?_
    exact ok_nil
  clear h; intro β a w h
  refine sym_then ?_
  refine sym_seq ?_
  refine sym_seq ?_
  refine St.region h [.inl (.agg (ai 22 (dg n))), .inr (0, 0), .inr (1, 0), .inr (2, 0), .inl (.int .i64 ((0 : Nat) : Int)), uu, uu, uu, uu, uu, uu, uu, uu, uu, uu, uu, uu, uu, uu, uu, uu, uu, uu, uu, uu, uu, uu, uu, uu, uu, uu, uu, uu, uu, uu, uu, uu] [(ai 22 (dg n), 35), (ck (fun _ => 0), 23), (ck (fun _ => 0), 23)] [(ai 22 (dg n), 35), (ck (fun _ => 0), 23), (ck (fun _ => 0), 23)] [#[], #[], #[]] [nn] (by kernel_rfl) (by kernel_rfl) (by kernel_rfl) (by kernel_rfl) (by kernel_rfl) (by kernel_rfl) (by kernel_rfl) (by kernel_rfl) ?_ ?_
  · refine ok_cons (ok_mv (Or.inr rfl) (by kernel_rfl) rfl (by kernel_rfl) (by kernel_rfl)) ?_
    exact ok_nil
  clear h; intro β a w h
  refine sym_then ?_
  refine blk_in ?_
  replace h := St.setm h 2 (c := ck (fun _ => 0)) (c' := ck (keF n 0)) (t := 23) (m' := [(ai 22 (dg n), 35), (ck (fun _ => 0), 23), (ck (keF n 0), 23)]) (keF_zero n) (by kernel_rfl) (by kernel_rfl)
  refine loop_up 256 (fun i a w => ∃ (x5 x6 x7 x8 x9 x10 x11 x12 x13 x14 x15 x16 x17 x18 x19 x20 x21 x22 x23 x24 x25 x26 x27 x28 x29 x30 x31 x32 x33 x34 x35 : SV) (β : Nat → Nat), St W0 [.inl (.agg (ai 22 (dg n))), .inr (0, 0), .inr (1, 0), .inr (2, 0), .inl (.int .i64 ((i : Nat) : Int)), x5, x6, x7, x8, x9, x10, x11, x12, x13, x14, x15, x16, x17, x18, x19, x20, x21, x22, x23, x24, x25, x26, x27, x28, x29, x30, x31, x32, x33, x34, x35, uu] [(ai 22 (dg n), 35), (ck (fun _ => 0), 23), (ck (keF n i), 23)] β a w) ⟨_, _, _, _, _, _, _, _, _, _, _, _, _, _, _, _, _, _, _, _, _, _, _, _, _, _, _, _, _, _, _, β, h⟩ ?_
  clear h; rintro i a w hki ⟨x5, x6, x7, x8, x9, x10, x11, x12, x13, x14, x15, x16, x17, x18, x19, x20, x21, x22, x23, x24, x25, x26, x27, x28, x29, x30, x31, x32, x33, x34, x35, β, h⟩
  have g1 := bt_fig n i
  have g2 := dg_lt n (i / 12)
  have g3 := keF_lt n i (i / 8)
  rcases Nat.lt_or_ge i 256 with hlti | hgei
  · rcases (show bt n i = 1 ∨ bt n i = 0 by have := bt_lt n i; omega) with hb1 | hb0
    · have g4 := keF_room hb1
      refine sym_seq ?_
      refine sym_seq ?_
      refine St.region h [.inl (.agg (ai 22 (dg n))), .inr (0, 0), .inr (1, 0), .inr (2, 0), .inl (.int .i64 ((i : Nat) : Int)), .inl (.int .i64 ((i : Nat) : Int)), .inl (.bool true), x7, x8, x9, x10, x11, x12, x13, x14, x15, x16, x17, x18, x19, x20, x21, x22, x23, x24, x25, x26, x27, x28, x29, x30, x31, x32, x33, x34, x35, uu] [(ai 22 (dg n), 35), (ck (fun _ => 0), 23), (ck (keF n i), 23)] [(ai 22 (dg n), 35), (ck (fun _ => 0), 23), (ck (keF n i), 23)] [#[], #[], #[]] [nn, nn] (by kernel_rfl) (by kernel_rfl) (by kernel_rfl) (by kernel_rfl) (by kernel_rfl) (by kernel_rfl) (by kernel_rfl) (by kernel_rfl) ?_ ?_
      · refine ok_cons (ok_mv (Or.inl rfl) (by kernel_rfl) rfl (by kernel_rfl) (by kernel_rfl)) ?_
        refine ok_cons (ok_bin (x1 := .int .i64 ((i : Nat) : Int)) (u1 := .int .i64 ((256 : Nat) : Int)) (v := .bool true) (lt_i (m := ((i : Nat) : Int)) (n := ((256 : Nat) : Int)) (decide_eq_true (by omega))) rfl (by kernel_rfl) rfl (by kernel_rfl) (by kernel_rfl) (by kernel_rfl) (by kernel_rfl) (by kernel_rfl)) ?_
        exact ok_nil
      clear h; intro β a w h
      refine sym_then ?_
      refine sym_cond_t h (by kernel_rfl) (by kernel_rfl) ?_
      refine wp_skip ?_
      refine sym_then ?_
      refine sym_seq ?_
      refine blk_in ?_
      refine sym_seq ?_
      refine St.region h [.inl (.agg (ai 22 (dg n))), .inr (0, 0), .inr (1, 0), .inr (2, 0), .inl (.int .i64 ((i : Nat) : Int)), .inl (.int .i64 ((i : Nat) : Int)), .inl (.bool true), x7, x8, .inl (.int .i64 ((i : Nat) : Int)), .inl (.int .i64 (((i / 12) : Nat) : Int)), .inl (.bool true), .inl (.bool true), .inl (.int .i64 ((i : Nat) : Int)), .inl (.int .i64 (((i / 12) : Nat) : Int)), .inr (0, (i / 12)), .inl (.int .i64 ((((dg n) (i / 12)) : Nat) : Int)), .inl (.int .i64 ((i : Nat) : Int)), .inl (.int .i64 (((i % 12) : Nat) : Int)), .inl (.int .u64 (((i % 12) : Nat) : Int)), .inl (.int .i64 (((((dg n) (i / 12)) / 2 ^ (i % 12)) : Nat) : Int)), .inl (.int .i64 ((((((dg n) (i / 12)) / 2 ^ (i % 12)) % 2) : Nat) : Int)), .inl (.bool true), .inl (.bool true), x24, x25, x26, x27, x28, x29, x30, x31, x32, x33, x34, x35, uu] [(ai 22 (dg n), 35), (ck (fun _ => 0), 23), (ck (keF n i), 23)] [(ai 22 (dg n), 35), (ck (fun _ => 0), 23), (ck (keF n i), 23)] [#[], #[], #[]] [nn, nn, nn, nn, nn, nn, nn, ⟨none, none, some 0, false⟩, nn, nn, nn, nn, nn, nn, nn] (by kernel_rfl) (by kernel_rfl) (by kernel_rfl) (by kernel_rfl) (by kernel_rfl) (by kernel_rfl) (by kernel_rfl) (by kernel_rfl) ?_ ?_
      · refine ok_cons (ok_mv (Or.inl rfl) (by kernel_rfl) rfl (by kernel_rfl) (by kernel_rfl)) ?_
        refine ok_cons (ok_bin (x1 := .int .i64 ((i : Nat) : Int)) (u1 := .int .i64 ((12 : Nat) : Int)) (v := .int .i64 (((i / 12) : Nat) : Int)) (qu_i (m := i) (n := 12) (by decide) (by omega)) rfl (by kernel_rfl) rfl (by kernel_rfl) (by kernel_rfl) (by kernel_rfl) (by kernel_rfl) (by kernel_rfl)) ?_
        refine ok_cons (ok_bin (x1 := .int .i64 (((i / 12) : Nat) : Int)) (u1 := .int .i64 ((22 : Nat) : Int)) (v := .bool true) (lt_i (m := (((i / 12) : Nat) : Int)) (n := ((22 : Nat) : Int)) (decide_eq_true (by omega))) rfl (by kernel_rfl) rfl (by kernel_rfl) (by kernel_rfl) (by kernel_rfl) (by kernel_rfl) (by kernel_rfl)) ?_
        refine ok_cons (ok_mv (Or.inl rfl) (by kernel_rfl) rfl (by kernel_rfl) (by kernel_rfl)) ?_
        refine ok_cons (ok_mv (Or.inl rfl) (by kernel_rfl) rfl (by kernel_rfl) (by kernel_rfl)) ?_
        refine ok_cons (ok_bin (x1 := .int .i64 ((i : Nat) : Int)) (u1 := .int .i64 ((12 : Nat) : Int)) (v := .int .i64 (((i / 12) : Nat) : Int)) (qu_i (m := i) (n := 12) (by decide) (by omega)) rfl (by kernel_rfl) rfl (by kernel_rfl) (by kernel_rfl) (by kernel_rfl) (by kernel_rfl) (by kernel_rfl)) ?_
        refine ok_cons (ok_iaddr (b := 0) (off := 0) (off' := (i / 12)) (u := .int .i64 (((i / 12) : Nat) : Int)) (ix22 (i := (i / 12)) (by omega)) rfl (by kernel_rfl) rfl (by kernel_rfl) (by kernel_rfl) (by kernel_rfl) (by kernel_rfl)) ?_
        refine ok_cons (ok_load (b := 0) (off := (i / 12)) (c := ai 22 (dg n)) (v := .int .i64 ((((dg n) (i / 12)) : Nat) : Int)) (ld_at (n := 22) (F := (dg n)) (i := (i / 12)) (t0 := 35) (by omega)) rfl (by kernel_rfl) rfl (by kernel_rfl) (by kernel_rfl) (by kernel_rfl)) ?_
        refine ok_cons (ok_mv (Or.inl rfl) (by kernel_rfl) rfl (by kernel_rfl) (by kernel_rfl)) ?_
        refine ok_cons (ok_bin (x1 := .int .i64 ((i : Nat) : Int)) (u1 := .int .i64 ((12 : Nat) : Int)) (v := .int .i64 (((i % 12) : Nat) : Int)) (re_i (m := i) (n := 12) (by decide)) rfl (by kernel_rfl) rfl (by kernel_rfl) (by kernel_rfl) (by kernel_rfl) (by kernel_rfl) (by kernel_rfl)) ?_
        refine ok_cons (ok_conv (x1 := .int .i64 (((i % 12) : Nat) : Int)) (v := .int .u64 (((i % 12) : Nat) : Int)) (cv_iu (n := (i % 12)) (by omega)) rfl (by kernel_rfl) rfl (by kernel_rfl) (by kernel_rfl) (by kernel_rfl)) ?_
        refine ok_cons (ok_bin (x1 := .int .i64 ((((dg n) (i / 12)) : Nat) : Int)) (u1 := .int .u64 (((i % 12) : Nat) : Int)) (v := .int .i64 (((((dg n) (i / 12)) / 2 ^ (i % 12)) : Nat) : Int)) (sr_i (m := ((dg n) (i / 12))) (r := (i % 12)) (by omega)) rfl (by kernel_rfl) rfl (by kernel_rfl) (by kernel_rfl) (by kernel_rfl) (by kernel_rfl) (by kernel_rfl)) ?_
        refine ok_cons (ok_bin (x1 := .int .i64 (((((dg n) (i / 12)) / 2 ^ (i % 12)) : Nat) : Int)) (u1 := .int .i64 ((2 : Nat) : Int)) (v := .int .i64 ((((((dg n) (i / 12)) / 2 ^ (i % 12)) % 2) : Nat) : Int)) (re_i (m := (((dg n) (i / 12)) / 2 ^ (i % 12))) (n := 2) (by decide)) rfl (by kernel_rfl) rfl (by kernel_rfl) (by kernel_rfl) (by kernel_rfl) (by kernel_rfl) (by kernel_rfl)) ?_
        refine ok_cons (ok_bin (x1 := .int .i64 ((((((dg n) (i / 12)) / 2 ^ (i % 12)) % 2) : Nat) : Int)) (u1 := .int .i64 ((1 : Nat) : Int)) (v := .bool true) (eq_i (m := ((((((dg n) (i / 12)) / 2 ^ (i % 12)) % 2) : Nat) : Int)) (n := ((1 : Nat) : Int)) (decide_eq_true (by omega))) rfl (by kernel_rfl) rfl (by kernel_rfl) (by kernel_rfl) (by kernel_rfl) (by kernel_rfl) (by kernel_rfl)) ?_
        refine ok_cons (ok_pick_t rfl (by kernel_rfl) rfl (by kernel_rfl) (by kernel_rfl) (by kernel_rfl) (by kernel_rfl)) ?_
        exact ok_nil
      clear h; intro β a w h
      refine sym_then ?_
      refine sym_cond_t h (by kernel_rfl) (by kernel_rfl) ?_
      refine St.region h [.inl (.agg (ai 22 (dg n))), .inr (0, 0), .inr (1, 0), .inr (2, 0), .inl (.int .i64 ((i : Nat) : Int)), .inl (.int .i64 ((i : Nat) : Int)), .inl (.bool true), x7, x8, .inl (.int .i64 ((i : Nat) : Int)), .inl (.int .i64 (((i / 12) : Nat) : Int)), .inl (.bool true), .inl (.bool true), .inl (.int .i64 ((i : Nat) : Int)), .inl (.int .i64 (((i / 12) : Nat) : Int)), .inr (0, (i / 12)), .inl (.int .i64 ((((dg n) (i / 12)) : Nat) : Int)), .inl (.int .i64 ((i : Nat) : Int)), .inl (.int .i64 (((i % 12) : Nat) : Int)), .inl (.int .u64 (((i % 12) : Nat) : Int)), .inl (.int .i64 (((((dg n) (i / 12)) / 2 ^ (i % 12)) : Nat) : Int)), .inl (.int .i64 ((((((dg n) (i / 12)) / 2 ^ (i % 12)) % 2) : Nat) : Int)), .inl (.bool true), .inl (.bool true), .inl (.int .i64 ((i : Nat) : Int)), .inl (.int .i64 (((i / 8) : Nat) : Int)), .inl (.int .i64 ((i : Nat) : Int)), .inl (.int .i64 (((i / 8) : Nat) : Int)), .inr (2, (i / 8)), .inl (.int .u8 ((((keF n i) (i / 8)) : Nat) : Int)), .inl (.int .i64 ((i : Nat) : Int)), .inl (.int .i64 (((i % 8) : Nat) : Int)), .inl (.int .u64 (((i % 8) : Nat) : Int)), .inl (.int .u8 (((2 ^ (i % 8)) : Nat) : Int)), .inl (.int .u8 (((((keF n i) (i / 8)) + (2 ^ (i % 8))) : Nat) : Int)), .inr (2, (i / 8)), uu] [(ai 22 (dg n), 35), (ck (fun _ => 0), 23), (ck (updN (keF n i) (i / 8) (((keF n i) (i / 8)) + (2 ^ (i % 8)))), 23)] [(ai 22 (dg n), 35), (ck (fun _ => 0), 23), (ck (keF n i), 23)] [#[], #[], ck (updN (keF n i) (i / 8) (((keF n i) (i / 8)) + (2 ^ (i % 8))))] [nn, nn, nn, nn, nn, ⟨none, none, some 2, false⟩, nn, nn, nn, nn, nn, nn, ⟨none, some 2, none, false⟩] (by kernel_rfl) (by kernel_rfl) (by kernel_rfl) (by kernel_rfl) (by kernel_rfl) (by kernel_rfl) (by kernel_rfl) (by kernel_rfl) ?_ ?_
      · refine ok_cons (ok_mv (Or.inl rfl) (by kernel_rfl) rfl (by kernel_rfl) (by kernel_rfl)) ?_
        refine ok_cons (ok_bin (x1 := .int .i64 ((i : Nat) : Int)) (u1 := .int .i64 ((8 : Nat) : Int)) (v := .int .i64 (((i / 8) : Nat) : Int)) (qu_i (m := i) (n := 8) (by decide) (by omega)) rfl (by kernel_rfl) rfl (by kernel_rfl) (by kernel_rfl) (by kernel_rfl) (by kernel_rfl) (by kernel_rfl)) ?_
        refine ok_cons (ok_mv (Or.inl rfl) (by kernel_rfl) rfl (by kernel_rfl) (by kernel_rfl)) ?_
        refine ok_cons (ok_bin (x1 := .int .i64 ((i : Nat) : Int)) (u1 := .int .i64 ((8 : Nat) : Int)) (v := .int .i64 (((i / 8) : Nat) : Int)) (qu_i (m := i) (n := 8) (by decide) (by omega)) rfl (by kernel_rfl) rfl (by kernel_rfl) (by kernel_rfl) (by kernel_rfl) (by kernel_rfl) (by kernel_rfl)) ?_
        refine ok_cons (ok_iaddr (b := 2) (off := 0) (off' := (i / 8)) (u := .int .i64 (((i / 8) : Nat) : Int)) (ixK (i := (i / 8)) (by omega)) rfl (by kernel_rfl) rfl (by kernel_rfl) (by kernel_rfl) (by kernel_rfl) (by kernel_rfl)) ?_
        refine ok_cons (ok_load (b := 2) (off := (i / 8)) (c := ck (keF n i)) (v := .int .u8 ((((keF n i) (i / 8)) : Nat) : Int)) (ld_k (F := (keF n i)) (i := (i / 8)) (t0 := 23) (by omega)) rfl (by kernel_rfl) rfl (by kernel_rfl) (by kernel_rfl) (by kernel_rfl)) ?_
        refine ok_cons (ok_mv (Or.inl rfl) (by kernel_rfl) rfl (by kernel_rfl) (by kernel_rfl)) ?_
        refine ok_cons (ok_bin (x1 := .int .i64 ((i : Nat) : Int)) (u1 := .int .i64 ((8 : Nat) : Int)) (v := .int .i64 (((i % 8) : Nat) : Int)) (re_i (m := i) (n := 8) (by decide)) rfl (by kernel_rfl) rfl (by kernel_rfl) (by kernel_rfl) (by kernel_rfl) (by kernel_rfl) (by kernel_rfl)) ?_
        refine ok_cons (ok_conv (x1 := .int .i64 (((i % 8) : Nat) : Int)) (v := .int .u64 (((i % 8) : Nat) : Int)) (cv_iu (n := (i % 8)) (by omega)) rfl (by kernel_rfl) rfl (by kernel_rfl) (by kernel_rfl) (by kernel_rfl)) ?_
        refine ok_cons (ok_bin (x1 := .int .u8 ((1 : Nat) : Int)) (u1 := .int .u64 (((i % 8) : Nat) : Int)) (v := .int .u8 (((2 ^ (i % 8)) : Nat) : Int)) (sl_b (r := (i % 8)) (by omega)) rfl (by kernel_rfl) rfl (by kernel_rfl) (by kernel_rfl) (by kernel_rfl) (by kernel_rfl) (by kernel_rfl)) ?_
        refine ok_cons (ok_bin (x1 := .int .u8 ((((keF n i) (i / 8)) : Nat) : Int)) (u1 := .int .u8 (((2 ^ (i % 8)) : Nat) : Int)) (v := .int .u8 (((((keF n i) (i / 8)) + (2 ^ (i % 8))) : Nat) : Int)) (ad_b (m := ((keF n i) (i / 8))) (n := (2 ^ (i % 8))) (by omega)) rfl (by kernel_rfl) rfl (by kernel_rfl) (by kernel_rfl) (by kernel_rfl) (by kernel_rfl) (by kernel_rfl)) ?_
        refine ok_cons (ok_iaddr (b := 2) (off := 0) (off' := (i / 8)) (u := .int .i64 (((i / 8) : Nat) : Int)) (ixK (i := (i / 8)) (by omega)) rfl (by kernel_rfl) rfl (by kernel_rfl) (by kernel_rfl) (by kernel_rfl) (by kernel_rfl)) ?_
        refine ok_cons (ok_store (b := 2) (off := (i / 8)) (u := .int .u8 (((((keF n i) (i / 8)) + (2 ^ (i % 8))) : Nat) : Int)) (c := ck (keF n i)) (n := ck (updN (keF n i) (i / 8) (((keF n i) (i / 8)) + (2 ^ (i % 8))))) (st_k (F := (keF n i)) (i := (i / 8)) (v := (((keF n i) (i / 8)) + (2 ^ (i % 8)))) (t0 := 23) (by omega)) rfl (by kernel_rfl) rfl (by kernel_rfl) (by kernel_rfl) (by kernel_rfl) (by kernel_rfl) (by kernel_rfl)) ?_
        exact ok_nil
      clear h; intro β a w h
      refine blk_norm ?_
      refine sym_then ?_
      refine St.region h [.inl (.agg (ai 22 (dg n))), .inr (0, 0), .inr (1, 0), .inr (2, 0), .inl (.int .i64 (((i + 1) : Nat) : Int)), .inl (.int .i64 ((i : Nat) : Int)), .inl (.bool true), .inl (.int .i64 ((i : Nat) : Int)), .inl (.int .i64 (((i + 1) : Nat) : Int)), .inl (.int .i64 ((i : Nat) : Int)), .inl (.int .i64 (((i / 12) : Nat) : Int)), .inl (.bool true), .inl (.bool true), .inl (.int .i64 ((i : Nat) : Int)), .inl (.int .i64 (((i / 12) : Nat) : Int)), .inr (0, (i / 12)), .inl (.int .i64 ((((dg n) (i / 12)) : Nat) : Int)), .inl (.int .i64 ((i : Nat) : Int)), .inl (.int .i64 (((i % 12) : Nat) : Int)), .inl (.int .u64 (((i % 12) : Nat) : Int)), .inl (.int .i64 (((((dg n) (i / 12)) / 2 ^ (i % 12)) : Nat) : Int)), .inl (.int .i64 ((((((dg n) (i / 12)) / 2 ^ (i % 12)) % 2) : Nat) : Int)), .inl (.bool true), .inl (.bool true), .inl (.int .i64 ((i : Nat) : Int)), .inl (.int .i64 (((i / 8) : Nat) : Int)), .inl (.int .i64 ((i : Nat) : Int)), .inl (.int .i64 (((i / 8) : Nat) : Int)), .inr (2, (i / 8)), .inl (.int .u8 ((((keF n i) (i / 8)) : Nat) : Int)), .inl (.int .i64 ((i : Nat) : Int)), .inl (.int .i64 (((i % 8) : Nat) : Int)), .inl (.int .u64 (((i % 8) : Nat) : Int)), .inl (.int .u8 (((2 ^ (i % 8)) : Nat) : Int)), .inl (.int .u8 (((((keF n i) (i / 8)) + (2 ^ (i % 8))) : Nat) : Int)), .inr (2, (i / 8)), uu] [(ai 22 (dg n), 35), (ck (fun _ => 0), 23), (ck (updN (keF n i) (i / 8) (((keF n i) (i / 8)) + (2 ^ (i % 8)))), 23)] [(ai 22 (dg n), 35), (ck (fun _ => 0), 23), (ck (updN (keF n i) (i / 8) (((keF n i) (i / 8)) + (2 ^ (i % 8)))), 23)] [#[], #[], #[]] [⟨none, none, none, true⟩, nn, nn] (by kernel_rfl) (by kernel_rfl) (by kernel_rfl) (by kernel_rfl) (by kernel_rfl) (by kernel_rfl) (by kernel_rfl) (by kernel_rfl) ?_ ?_
      · refine ok_cons (ok_mv0 rfl (by kernel_rfl) rfl (by kernel_rfl) (by kernel_rfl)) ?_
        refine ok_cons (ok_bin (x1 := .int .i64 ((i : Nat) : Int)) (u1 := .int .i64 ((1 : Nat) : Int)) (v := .int .i64 (((i + 1) : Nat) : Int)) (ad_i (m := i) (n := 1) (by omega)) rfl (by kernel_rfl) rfl (by kernel_rfl) (by kernel_rfl) (by kernel_rfl) (by kernel_rfl) (by kernel_rfl)) ?_
        refine ok_cons (ok_mv (Or.inr rfl) (by kernel_rfl) rfl (by kernel_rfl) (by kernel_rfl)) ?_
        exact ok_nil
      clear h; intro β a w h
      replace h := St.setm h 2 (c := ck (updN (keF n i) (i / 8) (((keF n i) (i / 8)) + (2 ^ (i % 8))))) (c' := ck (keF n (i + 1))) (t := 23) (m' := [(ai 22 (dg n), 35), (ck (fun _ => 0), 23), (ck (keF n (i + 1)), 23)]) (keF_one hb1) (by kernel_rfl) (by kernel_rfl)
      exact ⟨hlti, _, _, _, _, _, _, _, _, _, _, _, _, _, _, _, _, _, _, _, _, _, _, _, _, _, _, _, _, _, _, _, _, h⟩
    · refine sym_seq ?_
      refine sym_seq ?_
      refine St.region h [.inl (.agg (ai 22 (dg n))), .inr (0, 0), .inr (1, 0), .inr (2, 0), .inl (.int .i64 ((i : Nat) : Int)), .inl (.int .i64 ((i : Nat) : Int)), .inl (.bool true), x7, x8, x9, x10, x11, x12, x13, x14, x15, x16, x17, x18, x19, x20, x21, x22, x23, x24, x25, x26, x27, x28, x29, x30, x31, x32, x33, x34, x35, uu] [(ai 22 (dg n), 35), (ck (fun _ => 0), 23), (ck (keF n i), 23)] [(ai 22 (dg n), 35), (ck (fun _ => 0), 23), (ck (keF n i), 23)] [#[], #[], #[]] [nn, nn] (by kernel_rfl) (by kernel_rfl) (by kernel_rfl) (by kernel_rfl) (by kernel_rfl) (by kernel_rfl) (by kernel_rfl) (by kernel_rfl) ?_ ?_
      · refine ok_cons (ok_mv (Or.inl rfl) (by kernel_rfl) rfl (by kernel_rfl) (by kernel_rfl)) ?_
        refine ok_cons (ok_bin (x1 := .int .i64 ((i : Nat) : Int)) (u1 := .int .i64 ((256 : Nat) : Int)) (v := .bool true) (lt_i (m := ((i : Nat) : Int)) (n := ((256 : Nat) : Int)) (decide_eq_true (by omega))) rfl (by kernel_rfl) rfl (by kernel_rfl) (by kernel_rfl) (by kernel_rfl) (by kernel_rfl) (by kernel_rfl)) ?_
        exact ok_nil
      clear h; intro β a w h
      refine sym_then ?_
      refine sym_cond_t h (by kernel_rfl) (by kernel_rfl) ?_
      refine wp_skip ?_
      refine sym_then ?_
      refine sym_seq ?_
      refine blk_in ?_
      refine sym_seq ?_
      refine St.region h [.inl (.agg (ai 22 (dg n))), .inr (0, 0), .inr (1, 0), .inr (2, 0), .inl (.int .i64 ((i : Nat) : Int)), .inl (.int .i64 ((i : Nat) : Int)), .inl (.bool true), x7, x8, .inl (.int .i64 ((i : Nat) : Int)), .inl (.int .i64 (((i / 12) : Nat) : Int)), .inl (.bool true), .inl (.bool true), .inl (.int .i64 ((i : Nat) : Int)), .inl (.int .i64 (((i / 12) : Nat) : Int)), .inr (0, (i / 12)), .inl (.int .i64 ((((dg n) (i / 12)) : Nat) : Int)), .inl (.int .i64 ((i : Nat) : Int)), .inl (.int .i64 (((i % 12) : Nat) : Int)), .inl (.int .u64 (((i % 12) : Nat) : Int)), .inl (.int .i64 (((((dg n) (i / 12)) / 2 ^ (i % 12)) : Nat) : Int)), .inl (.int .i64 ((((((dg n) (i / 12)) / 2 ^ (i % 12)) % 2) : Nat) : Int)), .inl (.bool false), .inl (.bool false), x24, x25, x26, x27, x28, x29, x30, x31, x32, x33, x34, x35, uu] [(ai 22 (dg n), 35), (ck (fun _ => 0), 23), (ck (keF n i), 23)] [(ai 22 (dg n), 35), (ck (fun _ => 0), 23), (ck (keF n i), 23)] [#[], #[], #[]] [nn, nn, nn, nn, nn, nn, nn, ⟨none, none, some 0, false⟩, nn, nn, nn, nn, nn, nn, nn] (by kernel_rfl) (by kernel_rfl) (by kernel_rfl) (by kernel_rfl) (by kernel_rfl) (by kernel_rfl) (by kernel_rfl) (by kernel_rfl) ?_ ?_
      · refine ok_cons (ok_mv (Or.inl rfl) (by kernel_rfl) rfl (by kernel_rfl) (by kernel_rfl)) ?_
        refine ok_cons (ok_bin (x1 := .int .i64 ((i : Nat) : Int)) (u1 := .int .i64 ((12 : Nat) : Int)) (v := .int .i64 (((i / 12) : Nat) : Int)) (qu_i (m := i) (n := 12) (by decide) (by omega)) rfl (by kernel_rfl) rfl (by kernel_rfl) (by kernel_rfl) (by kernel_rfl) (by kernel_rfl) (by kernel_rfl)) ?_
        refine ok_cons (ok_bin (x1 := .int .i64 (((i / 12) : Nat) : Int)) (u1 := .int .i64 ((22 : Nat) : Int)) (v := .bool true) (lt_i (m := (((i / 12) : Nat) : Int)) (n := ((22 : Nat) : Int)) (decide_eq_true (by omega))) rfl (by kernel_rfl) rfl (by kernel_rfl) (by kernel_rfl) (by kernel_rfl) (by kernel_rfl) (by kernel_rfl)) ?_
        refine ok_cons (ok_mv (Or.inl rfl) (by kernel_rfl) rfl (by kernel_rfl) (by kernel_rfl)) ?_
        refine ok_cons (ok_mv (Or.inl rfl) (by kernel_rfl) rfl (by kernel_rfl) (by kernel_rfl)) ?_
        refine ok_cons (ok_bin (x1 := .int .i64 ((i : Nat) : Int)) (u1 := .int .i64 ((12 : Nat) : Int)) (v := .int .i64 (((i / 12) : Nat) : Int)) (qu_i (m := i) (n := 12) (by decide) (by omega)) rfl (by kernel_rfl) rfl (by kernel_rfl) (by kernel_rfl) (by kernel_rfl) (by kernel_rfl) (by kernel_rfl)) ?_
        refine ok_cons (ok_iaddr (b := 0) (off := 0) (off' := (i / 12)) (u := .int .i64 (((i / 12) : Nat) : Int)) (ix22 (i := (i / 12)) (by omega)) rfl (by kernel_rfl) rfl (by kernel_rfl) (by kernel_rfl) (by kernel_rfl) (by kernel_rfl)) ?_
        refine ok_cons (ok_load (b := 0) (off := (i / 12)) (c := ai 22 (dg n)) (v := .int .i64 ((((dg n) (i / 12)) : Nat) : Int)) (ld_at (n := 22) (F := (dg n)) (i := (i / 12)) (t0 := 35) (by omega)) rfl (by kernel_rfl) rfl (by kernel_rfl) (by kernel_rfl) (by kernel_rfl)) ?_
        refine ok_cons (ok_mv (Or.inl rfl) (by kernel_rfl) rfl (by kernel_rfl) (by kernel_rfl)) ?_
        refine ok_cons (ok_bin (x1 := .int .i64 ((i : Nat) : Int)) (u1 := .int .i64 ((12 : Nat) : Int)) (v := .int .i64 (((i % 12) : Nat) : Int)) (re_i (m := i) (n := 12) (by decide)) rfl (by kernel_rfl) rfl (by kernel_rfl) (by kernel_rfl) (by kernel_rfl) (by kernel_rfl) (by kernel_rfl)) ?_
        refine ok_cons (ok_conv (x1 := .int .i64 (((i % 12) : Nat) : Int)) (v := .int .u64 (((i % 12) : Nat) : Int)) (cv_iu (n := (i % 12)) (by omega)) rfl (by kernel_rfl) rfl (by kernel_rfl) (by kernel_rfl) (by kernel_rfl)) ?_
        refine ok_cons (ok_bin (x1 := .int .i64 ((((dg n) (i / 12)) : Nat) : Int)) (u1 := .int .u64 (((i % 12) : Nat) : Int)) (v := .int .i64 (((((dg n) (i / 12)) / 2 ^ (i % 12)) : Nat) : Int)) (sr_i (m := ((dg n) (i / 12))) (r := (i % 12)) (by omega)) rfl (by kernel_rfl) rfl (by kernel_rfl) (by kernel_rfl) (by kernel_rfl) (by kernel_rfl) (by kernel_rfl)) ?_
        refine ok_cons (ok_bin (x1 := .int .i64 (((((dg n) (i / 12)) / 2 ^ (i % 12)) : Nat) : Int)) (u1 := .int .i64 ((2 : Nat) : Int)) (v := .int .i64 ((((((dg n) (i / 12)) / 2 ^ (i % 12)) % 2) : Nat) : Int)) (re_i (m := (((dg n) (i / 12)) / 2 ^ (i % 12))) (n := 2) (by decide)) rfl (by kernel_rfl) rfl (by kernel_rfl) (by kernel_rfl) (by kernel_rfl) (by kernel_rfl) (by kernel_rfl)) ?_
        refine ok_cons (ok_bin (x1 := .int .i64 ((((((dg n) (i / 12)) / 2 ^ (i % 12)) % 2) : Nat) : Int)) (u1 := .int .i64 ((1 : Nat) : Int)) (v := .bool false) (eq_i (m := ((((((dg n) (i / 12)) / 2 ^ (i % 12)) % 2) : Nat) : Int)) (n := ((1 : Nat) : Int)) (decide_eq_false (by omega))) rfl (by kernel_rfl) rfl (by kernel_rfl) (by kernel_rfl) (by kernel_rfl) (by kernel_rfl) (by kernel_rfl)) ?_
        refine ok_cons (ok_pick_t rfl (by kernel_rfl) rfl (by kernel_rfl) (by kernel_rfl) (by kernel_rfl) (by kernel_rfl)) ?_
        exact ok_nil
      clear h; intro β a w h
      refine sym_then ?_
      refine sym_cond_f h (by kernel_rfl) (by kernel_rfl) ?_
      refine wp_skip ?_
      refine blk_norm ?_
      refine sym_then ?_
      refine St.region h [.inl (.agg (ai 22 (dg n))), .inr (0, 0), .inr (1, 0), .inr (2, 0), .inl (.int .i64 (((i + 1) : Nat) : Int)), .inl (.int .i64 ((i : Nat) : Int)), .inl (.bool true), .inl (.int .i64 ((i : Nat) : Int)), .inl (.int .i64 (((i + 1) : Nat) : Int)), .inl (.int .i64 ((i : Nat) : Int)), .inl (.int .i64 (((i / 12) : Nat) : Int)), .inl (.bool true), .inl (.bool true), .inl (.int .i64 ((i : Nat) : Int)), .inl (.int .i64 (((i / 12) : Nat) : Int)), .inr (0, (i / 12)), .inl (.int .i64 ((((dg n) (i / 12)) : Nat) : Int)), .inl (.int .i64 ((i : Nat) : Int)), .inl (.int .i64 (((i % 12) : Nat) : Int)), .inl (.int .u64 (((i % 12) : Nat) : Int)), .inl (.int .i64 (((((dg n) (i / 12)) / 2 ^ (i % 12)) : Nat) : Int)), .inl (.int .i64 ((((((dg n) (i / 12)) / 2 ^ (i % 12)) % 2) : Nat) : Int)), .inl (.bool false), .inl (.bool false), x24, x25, x26, x27, x28, x29, x30, x31, x32, x33, x34, x35, uu] [(ai 22 (dg n), 35), (ck (fun _ => 0), 23), (ck (keF n i), 23)] [(ai 22 (dg n), 35), (ck (fun _ => 0), 23), (ck (keF n i), 23)] [#[], #[], #[]] [⟨none, none, none, true⟩, nn, nn] (by kernel_rfl) (by kernel_rfl) (by kernel_rfl) (by kernel_rfl) (by kernel_rfl) (by kernel_rfl) (by kernel_rfl) (by kernel_rfl) ?_ ?_
      · refine ok_cons (ok_mv0 rfl (by kernel_rfl) rfl (by kernel_rfl) (by kernel_rfl)) ?_
        refine ok_cons (ok_bin (x1 := .int .i64 ((i : Nat) : Int)) (u1 := .int .i64 ((1 : Nat) : Int)) (v := .int .i64 (((i + 1) : Nat) : Int)) (ad_i (m := i) (n := 1) (by omega)) rfl (by kernel_rfl) rfl (by kernel_rfl) (by kernel_rfl) (by kernel_rfl) (by kernel_rfl) (by kernel_rfl)) ?_
        refine ok_cons (ok_mv (Or.inr rfl) (by kernel_rfl) rfl (by kernel_rfl) (by kernel_rfl)) ?_
        exact ok_nil
      clear h; intro β a w h
      replace h := St.setm h 2 (c := ck (keF n i)) (c' := ck (keF n (i + 1))) (t := 23) (m' := [(ai 22 (dg n), 35), (ck (fun _ => 0), 23), (ck (keF n (i + 1)), 23)]) (keF_none hb0) (by kernel_rfl) (by kernel_rfl)
      exact ⟨hlti, _, _, _, _, _, _, _, _, _, _, _, _, _, _, _, _, _, _, _, _, _, _, _, _, _, _, _, _, _, _, _, _, h⟩
  · obtain rfl : i = 256 := by omega
    refine sym_seq ?_
    refine sym_seq ?_
    refine St.region h [.inl (.agg (ai 22 (dg n))), .inr (0, 0), .inr (1, 0), .inr (2, 0), .inl (.int .i64 ((256 : Nat) : Int)), .inl (.int .i64 ((256 : Nat) : Int)), .inl (.bool false), x7, x8, x9, x10, x11, x12, x13, x14, x15, x16, x17, x18, x19, x20, x21, x22, x23, x24, x25, x26, x27, x28, x29, x30, x31, x32, x33, x34, x35, uu] [(ai 22 (dg n), 35), (ck (fun _ => 0), 23), (ck (keF n 256), 23)] [(ai 22 (dg n), 35), (ck (fun _ => 0), 23), (ck (keF n 256), 23)] [#[], #[], #[]] [nn, nn] (by kernel_rfl) (by kernel_rfl) (by kernel_rfl) (by kernel_rfl) (by kernel_rfl) (by kernel_rfl) (by kernel_rfl) (by kernel_rfl) ?_ ?_
    · refine ok_cons (ok_mv (Or.inl rfl) (by kernel_rfl) rfl (by kernel_rfl) (by kernel_rfl)) ?_
      refine ok_cons (ok_bin (x1 := .int .i64 ((256 : Nat) : Int)) (u1 := .int .i64 ((256 : Nat) : Int)) (v := .bool false) (lt_i (m := ((256 : Nat) : Int)) (n := ((256 : Nat) : Int)) (decide_eq_false (by omega))) rfl (by kernel_rfl) rfl (by kernel_rfl) (by kernel_rfl) (by kernel_rfl) (by kernel_rfl) (by kernel_rfl)) ?_
      exact ok_nil
    clear h; intro β a w h
    refine sym_then ?_
    refine sym_cond_f h (by kernel_rfl) (by kernel_rfl) ?_
    refine wp_exit ?_
    refine then_exit ?_
    refine then_exit ?_
    refine blk_exit ?_
    refine sym_then ?_
    refine sym_seq ?_
    refine St.region h [.inl (.agg (ai 22 (dg n))), .inr (0, 0), .inr (1, 0), .inr (2, 0), .inl (.int .i64 ((256 : Nat) : Int)), .inl (.int .i64 ((256 : Nat) : Int)), .inl (.bool false), x7, x8, x9, x10, x11, x12, x13, x14, x15, x16, x17, x18, x19, x20, x21, x22, x23, x24, x25, x26, x27, x28, x29, x30, x31, x32, x33, x34, x35, .inl (.agg (ck (keF n 256)))] [(ai 22 (dg n), 35), (ck (keF n 256), 23), (ck (keF n 256), 23)] [(ai 22 (dg n), 35), (ck (fun _ => 0), 23), (ck (keF n 256), 23)] [#[], ck (keF n 256), #[]] [⟨none, none, some 2, false⟩, ⟨none, some 1, none, false⟩] (by kernel_rfl) (by kernel_rfl) (by kernel_rfl) (by kernel_rfl) (by kernel_rfl) (by kernel_rfl) (by kernel_rfl) (by kernel_rfl) ?_ ?_
    · refine ok_cons (ok_load (b := 2) (off := 0) (c := ck (keF n 256)) (v := .agg (ck (keF n 256))) (ldK (b := (keF n 256)) 23) rfl (by kernel_rfl) rfl (by kernel_rfl) (by kernel_rfl) (by kernel_rfl)) ?_
      refine ok_cons (ok_store (b := 1) (off := 0) (u := .agg (ck (keF n 256))) (c := ck (fun _ => 0)) (n := ck (keF n 256)) (stK (F := (keF n 256)) (c := ck (fun _ => 0)) 23 (ck_size _)) rfl (by kernel_rfl) rfl (by kernel_rfl) (by kernel_rfl) (by kernel_rfl) (by kernel_rfl) (by kernel_rfl)) ?_
      exact ok_nil
    clear h; intro β a w h
    refine sym_then ?_
    refine wp_ret ?_
    exact sym_retc (b := 1) (t0 := 23) (c := ck (keF n 256)) h Try.results35 (by kernel_rfl) (by kernel_rfl) (by kernel_rfl) Try.underlying23 rfl (by rw [ck_size]; kernel_rfl) (fun hb => ⟨rfl, hb⟩)
end Go.Proofs.Ytgiemldmphbolaa

namespace Go.Proofs.Ytgiemldmphbolaa
open Go.RowKit

section
variable {P : Program} {W : World} {ops : Array Oper} {s0 s1 : List SV} {z : List Blk} {y : List (Array Value)} {o : Oper}
theorem ok_un {p : UnOp} {t : TypeId} {x : Operand} {d : Tmp} {v x1 : Value} (hr : ∀ w, (Op.unary p x1).run P w = .ok v w) (ho : o.op = .unOp p t x) (hw : wantF ops s1 o = true) (hd : o.dst = some d) (hpx : plainB s1 x = true) (hx1 : evS s1 x = x1) (hs : slot s1 d = .inl v) : Ok1 P W ops s0 s1 z y o ⟨none, none, none, false⟩ := by
  refine ok_val hw hd hs (fun β a w ha => ?_)
  have h1 : a.eval x = x1 := by rw [← hx1]; exact ev_plain ha (by rw [ho]; simp [Op.operands]) hpx
  simp only [execOp, ho, h1, Sem.run_bind, hr w, Result.andThen_ok, Sem.run_pure]
end
theorem ng_z {z : Int} {k : Nat} (h : -z = (k : Int)) (hk : k < 9223372036854775808) (w : World) : (Op.unary .neg (.int .i64 z)).run Try.prog w = .ok (.int .i64 (k : Int)) w := by
  have h1 : IntKind.i64.wrap (-z) = (k : Int) := by rw [h]; exact wrapI _ (by omega) (by omega)
  simp [go_sem, h1]
theorem ad_z {x u : Operand} {m n : Int} (h1 : -9223372036854775808 ≤ m + n) (h2 : m + n < 9223372036854775808) (w : World) : (do eqGuard .add 3 x u (.int .i64 m) (.int .i64 n); binOp .add 3 (.int .i64 m) (.int .i64 n)).run Try.prog w = .ok (.int .i64 (m + n)) w := by
  have h3 := wrapI (m + n) h1 h2
  simp [eqGuard, binOp, go_sem, h3]
theorem bd22 (w : World) : (Instr.build 35 #[]).run Try.prog w = .ok (.agg (ai 22 (dg 0))) w := by
  have h : ai 22 (dg 0) = ⟨List.replicate 22 (.int .i64 0)⟩ := by
    rw [← ai_zero]; exact ai_congr fun i _ => by simp [dg]
  have h2 : (Instr.build 35 #[]).run Try.prog w = .ok (.agg ⟨List.replicate 22 (.int .i64 0)⟩) w := by kernel_rfl
  rw [h, h2]
theorem dg_inj {m n : Nat} (hm : m < 4096 ^ 22) (hn : n < 4096 ^ 22) (h : ∀ i, i < 22 → dg m i = dg n i) : m = n := by
  have := pv_congr (F := dg m) (G := dg n) 22 h
  rwa [pv_dg, pv_dg, Nat.mod_eq_of_lt hm, Nat.mod_eq_of_lt hn] at this
set_option maxRecDepth 100000 in
theorem eq22_run (m n : Nat) (w : World) : ∃ b : Bool, (b = true ↔ ∀ i, i < 22 → dg m i = dg n i) ∧ (Op.equalIn 10000 35 (.agg (ai 22 (dg m))) (.agg (ai 22 (dg n)))).run Try.prog w = .ok b w := by
  refine ⟨_, ?_, eq_ints (P := Try.prog) (t := 35) (e := 3) (n := 22) (k := .i64) (k' := .i64) Try.underlying35 (inf := _) rfl (by kernel_rfl) Try.underlying3 (fun _ => by kernel_rfl) (ai 22 (dg m)) (ai 22 (dg n)) (fun i => (dg m i : Int)) (fun i => (dg n i : Int)) (fun i hi => arr_get _ _ _ hi) (fun i hi => arr_get _ _ _ hi) w⟩
  rw [decide_eq_true_eq]
  constructor <;> intro hh i hi <;> have := hh i hi <;> omega
section
variable {x u : Operand}
theorem eq22_t (m : Nat) (w : World) : (do eqGuard .eql 35 x u (.agg (ai 22 (dg m))) (.agg (ai 22 (dg m))); binOp .eql 35 (.agg (ai 22 (dg m))) (.agg (ai 22 (dg m)))).run Try.prog w = .ok (.bool true) w := by
  obtain ⟨b, hb, h1⟩ := eq22_run m m w
  obtain rfl : b = true := hb.2 (fun _ _ => rfl)
  simp [eqGuard, binOp, go_sem, Op.equal, Op.maxDepth, h1]
theorem eq22_f {m n : Nat} (hm : m < 4096 ^ 22) (hn : n < 4096 ^ 22) (h : m ≠ n) (w : World) : (do eqGuard .eql 35 x u (.agg (ai 22 (dg m))) (.agg (ai 22 (dg n))); binOp .eql 35 (.agg (ai 22 (dg m))) (.agg (ai 22 (dg n)))).run Try.prog w = .ok (.bool false) w := by
  obtain ⟨b, hb, h1⟩ := eq22_run m n w
  obtain rfl : b = false := by
    cases b with
    | false => rfl
    | true => exact absurd (dg_inj hm hn (hb.1 rfl)) h
  simp [eqGuard, binOp, go_sem, Op.equal, Op.maxDepth, h1]
theorem ne22_f (m : Nat) (w : World) : (do eqGuard .neq 35 x u (.agg (ai 22 (dg m))) (.agg (ai 22 (dg m))); binOp .neq 35 (.agg (ai 22 (dg m))) (.agg (ai 22 (dg m)))).run Try.prog w = .ok (.bool false) w := by
  obtain ⟨b, hb, h1⟩ := eq22_run m m w
  obtain rfl : b = true := hb.2 (fun _ _ => rfl)
  simp [eqGuard, binOp, go_sem, Op.equal, Op.maxDepth, h1]
theorem ne22_t {m n : Nat} (hm : m < 4096 ^ 22) (hn : n < 4096 ^ 22) (h : m ≠ n) (w : World) : (do eqGuard .neq 35 x u (.agg (ai 22 (dg m))) (.agg (ai 22 (dg n))); binOp .neq 35 (.agg (ai 22 (dg m))) (.agg (ai 22 (dg n)))).run Try.prog w = .ok (.bool true) w := by
  obtain ⟨b, hb, h1⟩ := eq22_run m n w
  obtain rfl : b = false := by
    cases b with
    | false => rfl
    | true => exact absurd (dg_inj hm hn (hb.1 rfl)) h
  simp [eqGuard, binOp, go_sem, Op.equal, Op.maxDepth, h1]
end
theorem lt_big {m : Nat} (h : m < pp) : m < 4096 ^ 22 := Nat.lt_trans h pp_big

/-- A whole number's figures, k of them told. -/
def inF (N k j : Nat) : Nat := if j < k then dg N j else 0
def nq (N k : Nat) : Nat := N / 4096 ^ k
theorem nq_zero (N : Nat) : N = nq N 0 := by simp [nq]
theorem nq_next (N k : Nat) : nq N k / 4096 = nq N (k + 1) := by unfold nq; rw [Nat.div_div_eq_div_mul, ← Nat.pow_succ]
theorem nq_le (N k : Nat) : nq N k ≤ N := Nat.div_le_self _ _
theorem inF_zero (N : Nat) : ai 44 (fun _ => 0) = ai 44 (inF N 0) := ai_congr fun i _ => by simp [inF]
theorem inF_next (N k : Nat) : ai 44 (updN (inF N k) k (nq N k % 4096)) = ai 44 (inF N (k + 1)) := ai_congr fun i _ => by
  unfold updN inF nq
  by_cases e : i = k
  · subst e; simp [dg]
  · have : (i < k + 1) = (i < k) := by simp; omega
    simp [e, this]
theorem inF_lt (N k i : Nat) : inF N k i < 1099511627776 := by
  unfold inF
  have := dg_lt N i
  split <;> omega
theorem inF_pv {N : Nat} (h : N < 9223372036854775808) : pv (inF N 6) 44 = N := by
  have h1 : pv (inF N 6) 44 = pv (inF N 6) 6 := pv_zero (a := 6) 38 (fun j h1 _ => by unfold inF; rw [if_neg (by omega)])
  have h2 : pv (inF N 6) 6 = pv (dg N) 6 := pv_congr 6 fun i hi => by unfold inF; rw [if_pos hi]
  rw [h1, h2, pv_dg, Nat.mod_eq_of_lt (Nat.lt_trans h (by decide))]
end Go.Proofs.Ytgiemldmphbolaa

namespace Go.Proofs.Ytgiemldmphbolaa

theorem half_dig (n k : Nat) : dg (n / 2) k = (dg n k + dg n (k + 1) % 2 * 4096) / 2 := by
  have h1 := div_step n k
  have h2 : n / 2 / 4096 ^ k = n / 4096 ^ k / 2 := by rw [Nat.div_div_eq_div_mul, Nat.div_div_eq_div_mul, Nat.mul_comm]
  have h3 : dg n (k + 1) = n / 4096 ^ (k + 1) % 4096 := rfl
  have h4 := dg_lt n k
  unfold dg at h4 ⊢
  rw [h2]
  unfold dg at h1 h3
  generalize n / 4096 ^ (k + 1) = q at *
  generalize n / 4096 ^ k = p at *
  omega
def haF (n k j : Nat) : Nat := if j < k then dg (n / 2) j else dg n j
theorem haF_at (n k : Nat) : haF n k k = dg n k := by simp [haF]
theorem haF_nx (n k : Nat) : haF n k (k + 1) = dg n (k + 1) := by unfold haF; rw [if_neg (by omega)]
theorem haF_zero (n : Nat) : ai 22 (dg n) = ai 22 (haF n 0) := ai_congr fun i _ => by simp [haF]
theorem haF_end (n : Nat) : ai 22 (haF n 22) = ai 22 (dg (n / 2)) := ai_congr fun i hi => by simp [haF, hi]
theorem haF_set {n k v : Nat} (h : v = dg (n / 2) k) : ai 22 (updN (haF n k) k v) = ai 22 (haF n (k + 1)) := ai_congr fun i _ => by
  unfold updN haF
  by_cases e : i = k
  · subst e; simp [h]
  · have : (i < k + 1) = (i < k) := by simp; omega
    simp [e, this]
theorem haF_next (n k : Nat) : ai 22 (updN (haF n k) k ((haF n k k + haF n k (k + 1) % 2 * 4096) / 2)) = ai 22 (haF n (k + 1)) := haF_set (by rw [haF_at, haF_nx, half_dig])
theorem haF_last {n : Nat} (hn : n < 4096 ^ 22) : ai 22 (updN (haF n 21) 21 (haF n 21 21 / 2)) = ai 22 (haF n 22) := haF_set (by rw [haF_at, half_dig, dg_big hn 22 (by omega)]; omega)

/-- Counting down from 254. -/
def dp (k : Nat) : Int := 254 - (k : Int)
theorem dp_ix {k : Nat} (h : k < 255) : dp k = ((254 - k : Nat) : Int) := by unfold dp; omega
theorem sb_dp {x u : Operand} {k : Nat} (h : k < 255) (w : World) : (do eqGuard .sub 3 x u (.int .i64 ((254 - k : Nat) : Int)) (.int .i64 ((1 : Nat) : Int)); binOp .sub 3 (.int .i64 ((254 - k : Nat) : Int)) (.int .i64 ((1 : Nat) : Int))).run Try.prog w = .ok (.int .i64 (dp (k + 1))) w := by
  have := sb_z (x := x) (u := u) (m := ((254 - k : Nat) : Int)) (n := ((1 : Nat) : Int)) (by omega) (by omega) w
  rwa [show ((254 - k : Nat) : Int) - ((1 : Nat) : Int) = dp (k + 1) by unfold dp; omega] at this
/-- The power by the highest k of 255 bits. -/
def pw (m e k : Nat) : Nat := m ^ (e / 2 ^ (255 - k)) % pp
theorem pw_lt (m e k : Nat) : pw m e k < pp := mod_pp _
theorem pw_zero {m e : Nat} (he : e < 2 ^ 255) : pw m e 0 = 1 := by
  unfold pw
  rw [Nat.div_eq_of_lt he, Nat.pow_zero]
  exact Nat.mod_eq_of_lt (by decide +kernel)
theorem pw_end (m e : Nat) : pw m e 255 = m ^ e % pp := by unfold pw; simp
theorem bits_next {e k : Nat} (hk : k < 255) : e / 2 ^ (255 - (k + 1)) = e / 2 ^ (255 - k) + e / 2 ^ (255 - k) + bt e (254 - k) := by
  have h1 : 255 - (k + 1) = 254 - k := by omega
  have h2 : 255 - k = 254 - k + 1 := by omega
  unfold bt
  rw [h1, h2, Nat.pow_succ, ← Nat.div_div_eq_div_mul]
  generalize e / 2 ^ (254 - k) = q
  omega
theorem pw_one {m e k : Nat} (hk : k < 255) (hb : bt e (254 - k) = 1) : pw m e k * pw m e k % pp * m % pp = pw m e (k + 1) := by
  unfold pw
  rw [bits_next hk, hb, Nat.pow_add, Nat.pow_add, Nat.pow_one, ← Nat.mul_mod, Nat.mod_mul_mod]
theorem pw_none {m e k : Nat} (hk : k < 255) (hb : bt e (254 - k) = 0) : pw m e k * pw m e k % pp = pw m e (k + 1) := by
  unfold pw
  rw [bits_next hk, hb, Nat.add_zero, Nat.pow_add, ← Nat.mul_mod]

theorem neg_eq {m : Nat} (h1 : 1 ≤ m) (h2 : m ≤ 9223372036854775808) : ((0 + (pp - (m - 1))) % pp + (pp - 1)) % pp = pp - m := by
  have hp : 9223372036854775808 < pp := by decide +kernel
  by_cases e : m = 1
  · subst e
    simp only [Nat.sub_self, Nat.sub_zero, Nat.zero_add, Nat.mod_self]
    exact Nat.mod_eq_of_lt (by omega)
  · rw [Nat.zero_add, Nat.mod_eq_of_lt (show pp - (m - 1) < pp by omega), show pp - (m - 1) + (pp - 1) = pp - m + pp by omega, Nat.add_mod_right, Nat.mod_eq_of_lt (by omega)]
theorem one_lt : 1 < pp := by decide +kernel
theorem two_lt : 2 < pp := by decide +kernel
end Go.Proofs.Ytgiemldmphbolaa

namespace Go.Proofs.Ytgiemldmphbolaa
open Go.RowKit
theorem int_least {N : Nat} (hN : N < 9223372036854775808) (w : World) : Calls Try.prog 67 #[.agg (ai 44 (inF N 6))] w fun e w' => e = .returned (.agg (ai 22 (dg N))) ∧ Below w.heap.size w w' := by
  have := least_r (inF_lt N 6) (inF_pv hN) (show N < 4096 ^ 44 from Nat.lt_trans hN (by decide +kernel)) w
  have hp : 9223372036854775808 < pp := by decide +kernel
  rwa [Nat.mod_eq_of_lt (show N < pp from Nat.lt_trans hN hp)] at this
set_option maxHeartbeats 4000000 in
theorem int_r {N : Nat} (hN : N < 9223372036854775808) (W0 : World) : Calls Try.prog 37 #[.int .i64 ((N : Nat) : Int)] W0 fun e w' => e = .returned (.agg (ai 22 (dg N))) ∧ Below W0.heap.size W0 w' := by
  refine sym_enter Try.func37 Try.ntmps37 rfl [.inl (.int .i64 ((N : Nat) : Int)), uu, uu, uu, uu, uu, uu, uu, uu, uu, uu, uu, uu, uu, uu, uu, uu, uu, uu, uu, uu, uu, uu, uu, uu, uu, uu] (by kernel_rfl) (by kernel_rfl) ?_
  intro β a h
  refine sym_seq ?_
  refine St.region h [.inl (.int .i64 ((N : Nat) : Int)), uu, .inr (0, 0), uu, uu, uu, uu, uu, uu, uu, uu, uu, uu, uu, uu, uu, uu, uu, uu, uu, uu, uu, uu, uu, uu, uu, uu] [(ai 22 (fun _ => 0), 35)] [(ai 22 (fun _ => 0), 35)] [#[]] [⟨some 0, none, none, false⟩] (by kernel_rfl) (by kernel_rfl) (by kernel_rfl) (by kernel_rfl) (by kernel_rfl) (by kernel_rfl) (by kernel_rfl) (by kernel_rfl) ?_ ?_
  · refine ok_cons (ok_alloc (b := 0) al22 rfl (by kernel_rfl) rfl (by kernel_rfl) (by kernel_rfl)) ?_
    exact ok_nil
  clear h; intro β a w h
  refine sym_then ?_
  refine sym_seq ?_
  refine sym_seq ?_
  refine St.region h [.inl (.int .i64 ((N : Nat) : Int)), uu, .inr (0, 0), uu, uu, .inl (.int .i64 ((N : Nat) : Int)), .inl (.bool false), uu, uu, uu, uu, uu, uu, uu, uu, uu, uu, uu, uu, uu, uu, uu, uu, uu, uu, uu, uu] [(ai 22 (fun _ => 0), 35)] [(ai 22 (fun _ => 0), 35)] [#[]] [nn, nn] (by kernel_rfl) (by kernel_rfl) (by kernel_rfl) (by kernel_rfl) (by kernel_rfl) (by kernel_rfl) (by kernel_rfl) (by kernel_rfl) ?_ ?_
  · refine ok_cons (ok_mv (Or.inl rfl) (by kernel_rfl) rfl (by kernel_rfl) (by kernel_rfl)) ?_
    refine ok_cons (ok_bin (x1 := .int .i64 ((N : Nat) : Int)) (u1 := .int .i64 ((0 : Nat) : Int)) (v := .bool false) (lt_i (m := ((N : Nat) : Int)) (n := ((0 : Nat) : Int)) (decide_eq_false (by omega))) rfl (by kernel_rfl) rfl (by kernel_rfl) (by kernel_rfl) (by kernel_rfl) (by kernel_rfl) (by kernel_rfl)) ?_
    exact ok_nil
  clear h; intro β a w h
  refine sym_then ?_
  refine sym_cond_f h (by kernel_rfl) (by kernel_rfl) ?_
  refine wp_skip ?_
  refine sym_then ?_
  refine sym_seq ?_
  refine St.region h [.inl (.int .i64 ((N : Nat) : Int)), uu, .inr (0, 0), .inr (1, 0), uu, .inl (.int .i64 ((N : Nat) : Int)), .inl (.bool false), uu, uu, uu, uu, uu, uu, uu, uu, uu, uu, uu, uu, uu, uu, uu, uu, uu, uu, uu, uu] [(ai 22 (fun _ => 0), 35), (ai 44 (fun _ => 0), 95)] [(ai 22 (fun _ => 0), 35), (ai 44 (fun _ => 0), 95)] [#[], #[]] [⟨some 1, none, none, false⟩] (by kernel_rfl) (by kernel_rfl) (by kernel_rfl) (by kernel_rfl) (by kernel_rfl) (by kernel_rfl) (by kernel_rfl) (by kernel_rfl) ?_ ?_
  · refine ok_cons (ok_alloc (b := 1) al44 rfl (by kernel_rfl) rfl (by kernel_rfl) (by kernel_rfl)) ?_
    exact ok_nil
  clear h; intro β a w h
  refine sym_then ?_
  refine sym_seq ?_
  refine sym_seq ?_
  refine St.region h [.inl (.int .i64 ((N : Nat) : Int)), uu, .inr (0, 0), .inr (1, 0), .inl (.int .i64 ((0 : Nat) : Int)), .inl (.int .i64 ((N : Nat) : Int)), .inl (.bool false), uu, uu, uu, uu, uu, uu, uu, uu, uu, uu, uu, uu, uu, uu, uu, uu, uu, uu, uu, uu] [(ai 22 (fun _ => 0), 35), (ai 44 (fun _ => 0), 95)] [(ai 22 (fun _ => 0), 35), (ai 44 (fun _ => 0), 95)] [#[], #[]] [nn] (by kernel_rfl) (by kernel_rfl) (by kernel_rfl) (by kernel_rfl) (by kernel_rfl) (by kernel_rfl) (by kernel_rfl) (by kernel_rfl) ?_ ?_
  · refine ok_cons (ok_mv (Or.inr rfl) (by kernel_rfl) rfl (by kernel_rfl) (by kernel_rfl)) ?_
    exact ok_nil
  clear h; intro β a w h
  refine sym_then ?_
  refine blk_in ?_
  replace h := St.setm h 1 (c := ai 44 (fun _ => 0)) (c' := ai 44 (inF N 0)) (t := 95) (m' := [(ai 22 (fun _ => 0), 35), (ai 44 (inF N 0), 95)]) (inF_zero N) (by kernel_rfl) (by kernel_rfl)
  replace h := St.sets h 0 (v := .int .i64 ((N : Nat) : Int)) (v' := .int .i64 (((nq N 0) : Nat) : Int)) (s' := [.inl (.int .i64 (((nq N 0) : Nat) : Int)), uu, .inr (0, 0), .inr (1, 0), .inl (.int .i64 ((0 : Nat) : Int)), .inl (.int .i64 ((N : Nat) : Int)), .inl (.bool false), uu, uu, uu, uu, uu, uu, uu, uu, uu, uu, uu, uu, uu, uu, uu, uu, uu, uu, uu, uu]) (ic (nq_zero N)) (by kernel_rfl) (by kernel_rfl)
  refine loop_up 6 (fun k a w => ∃ (x15 x16 x17 x18 x19 x20 x21 x22 x23 x24 : SV) (β : Nat → Nat), St W0 [.inl (.int .i64 (((nq N k) : Nat) : Int)), uu, .inr (0, 0), .inr (1, 0), .inl (.int .i64 ((k : Nat) : Int)), .inl (.int .i64 ((N : Nat) : Int)), .inl (.bool false), uu, uu, uu, uu, uu, uu, uu, uu, x15, x16, x17, x18, x19, x20, x21, x22, x23, x24, uu, uu] [(ai 22 (fun _ => 0), 35), (ai 44 (inF N k), 95)] β a w) ⟨_, _, _, _, _, _, _, _, _, _, β, h⟩ ?_
  clear h; rintro k a w hkk ⟨x15, x16, x17, x18, x19, x20, x21, x22, x23, x24, β, h⟩
  have g1 := nq_le N k
  rcases Nat.lt_or_ge k 6 with hltk | hgek
  · refine sym_seq ?_
    refine sym_seq ?_
    refine St.region h [.inl (.int .i64 (((nq N k) : Nat) : Int)), uu, .inr (0, 0), .inr (1, 0), .inl (.int .i64 ((k : Nat) : Int)), .inl (.int .i64 ((N : Nat) : Int)), .inl (.bool false), uu, uu, uu, uu, uu, uu, uu, uu, .inl (.int .i64 ((k : Nat) : Int)), .inl (.bool true), x17, x18, x19, x20, x21, x22, x23, x24, uu, uu] [(ai 22 (fun _ => 0), 35), (ai 44 (inF N k), 95)] [(ai 22 (fun _ => 0), 35), (ai 44 (inF N k), 95)] [#[], #[]] [nn, nn] (by kernel_rfl) (by kernel_rfl) (by kernel_rfl) (by kernel_rfl) (by kernel_rfl) (by kernel_rfl) (by kernel_rfl) (by kernel_rfl) ?_ ?_
    · refine ok_cons (ok_mv (Or.inl rfl) (by kernel_rfl) rfl (by kernel_rfl) (by kernel_rfl)) ?_
      refine ok_cons (ok_bin (x1 := .int .i64 ((k : Nat) : Int)) (u1 := .int .i64 ((6 : Nat) : Int)) (v := .bool true) (lt_i (m := ((k : Nat) : Int)) (n := ((6 : Nat) : Int)) (decide_eq_true (by omega))) rfl (by kernel_rfl) rfl (by kernel_rfl) (by kernel_rfl) (by kernel_rfl) (by kernel_rfl) (by kernel_rfl)) ?_
      exact ok_nil
    clear h; intro β a w h
    refine sym_then ?_
    refine sym_cond_t h (by kernel_rfl) (by kernel_rfl) ?_
    refine wp_skip ?_
    refine sym_then ?_
    refine sym_seq ?_
    refine blk_in ?_
    refine sym_seq ?_
    refine St.region h [.inl (.int .i64 (((nq N k) : Nat) : Int)), uu, .inr (0, 0), .inr (1, 0), .inl (.int .i64 ((k : Nat) : Int)), .inl (.int .i64 ((N : Nat) : Int)), .inl (.bool false), uu, uu, uu, uu, uu, uu, uu, uu, .inl (.int .i64 ((k : Nat) : Int)), .inl (.bool true), x17, x18, .inl (.int .i64 ((k : Nat) : Int)), .inl (.int .i64 (((nq N k) : Nat) : Int)), .inl (.int .i64 ((((nq N k) % 4096) : Nat) : Int)), .inr (1, k), x23, x24, uu, uu] [(ai 22 (fun _ => 0), 35), (ai 44 (updN (inF N k) k ((nq N k) % 4096)), 95)] [(ai 22 (fun _ => 0), 35), (ai 44 (inF N k), 95)] [#[], ai 44 (updN (inF N k) k ((nq N k) % 4096))] [nn, nn, nn, nn, ⟨none, some 1, none, false⟩] (by kernel_rfl) (by kernel_rfl) (by kernel_rfl) (by kernel_rfl) (by kernel_rfl) (by kernel_rfl) (by kernel_rfl) (by kernel_rfl) ?_ ?_
    · refine ok_cons (ok_mv (Or.inl rfl) (by kernel_rfl) rfl (by kernel_rfl) (by kernel_rfl)) ?_
      refine ok_cons (ok_mv (Or.inl rfl) (by kernel_rfl) rfl (by kernel_rfl) (by kernel_rfl)) ?_
      refine ok_cons (ok_bin (x1 := .int .i64 (((nq N k) : Nat) : Int)) (u1 := .int .i64 ((4096 : Nat) : Int)) (v := .int .i64 ((((nq N k) % 4096) : Nat) : Int)) (re_i (m := (nq N k)) (n := 4096) (by decide)) rfl (by kernel_rfl) rfl (by kernel_rfl) (by kernel_rfl) (by kernel_rfl) (by kernel_rfl) (by kernel_rfl)) ?_
      refine ok_cons (ok_iaddr (b := 1) (off := 0) (off' := k) (u := .int .i64 ((k : Nat) : Int)) (ix44 (i := k) (by omega)) rfl (by kernel_rfl) rfl (by kernel_rfl) (by kernel_rfl) (by kernel_rfl) (by kernel_rfl)) ?_
      refine ok_cons (ok_store (b := 1) (off := k) (u := .int .i64 ((((nq N k) % 4096) : Nat) : Int)) (c := ai 44 (inF N k)) (n := ai 44 (updN (inF N k) k ((nq N k) % 4096))) (st_at (n := 44) (F := (inF N k)) (i := k) (v := ((nq N k) % 4096)) (t0 := 95) (by omega)) rfl (by kernel_rfl) rfl (by kernel_rfl) (by kernel_rfl) (by kernel_rfl) (by kernel_rfl) (by kernel_rfl)) ?_
      exact ok_nil
    clear h; intro β a w h
    refine sym_then ?_
    refine St.region h [.inl (.int .i64 ((((nq N k) / 4096) : Nat) : Int)), uu, .inr (0, 0), .inr (1, 0), .inl (.int .i64 ((k : Nat) : Int)), .inl (.int .i64 ((N : Nat) : Int)), .inl (.bool false), uu, uu, uu, uu, uu, uu, uu, uu, .inl (.int .i64 ((k : Nat) : Int)), .inl (.bool true), x17, x18, .inl (.int .i64 ((k : Nat) : Int)), .inl (.int .i64 (((nq N k) : Nat) : Int)), .inl (.int .i64 ((((nq N k) % 4096) : Nat) : Int)), .inr (1, k), .inl (.int .i64 (((nq N k) : Nat) : Int)), .inl (.int .i64 ((((nq N k) / 4096) : Nat) : Int)), uu, uu] [(ai 22 (fun _ => 0), 35), (ai 44 (updN (inF N k) k ((nq N k) % 4096)), 95)] [(ai 22 (fun _ => 0), 35), (ai 44 (updN (inF N k) k ((nq N k) % 4096)), 95)] [#[], #[]] [⟨none, none, none, true⟩, nn, nn] (by kernel_rfl) (by kernel_rfl) (by kernel_rfl) (by kernel_rfl) (by kernel_rfl) (by kernel_rfl) (by kernel_rfl) (by kernel_rfl) ?_ ?_
    · refine ok_cons (ok_mv0 rfl (by kernel_rfl) rfl (by kernel_rfl) (by kernel_rfl)) ?_
      refine ok_cons (ok_bin (x1 := .int .i64 (((nq N k) : Nat) : Int)) (u1 := .int .i64 ((4096 : Nat) : Int)) (v := .int .i64 ((((nq N k) / 4096) : Nat) : Int)) (qu_i (m := (nq N k)) (n := 4096) (by decide) (by omega)) rfl (by kernel_rfl) rfl (by kernel_rfl) (by kernel_rfl) (by kernel_rfl) (by kernel_rfl) (by kernel_rfl)) ?_
      refine ok_cons (ok_mv (Or.inr rfl) (by kernel_rfl) rfl (by kernel_rfl) (by kernel_rfl)) ?_
      exact ok_nil
    clear h; intro β a w h
    refine blk_norm ?_
    refine sym_then ?_
    refine St.region h [.inl (.int .i64 ((((nq N k) / 4096) : Nat) : Int)), uu, .inr (0, 0), .inr (1, 0), .inl (.int .i64 (((k + 1) : Nat) : Int)), .inl (.int .i64 ((N : Nat) : Int)), .inl (.bool false), uu, uu, uu, uu, uu, uu, uu, uu, .inl (.int .i64 ((k : Nat) : Int)), .inl (.bool true), .inl (.int .i64 ((k : Nat) : Int)), .inl (.int .i64 (((k + 1) : Nat) : Int)), .inl (.int .i64 ((k : Nat) : Int)), .inl (.int .i64 (((nq N k) : Nat) : Int)), .inl (.int .i64 ((((nq N k) % 4096) : Nat) : Int)), .inr (1, k), .inl (.int .i64 (((nq N k) : Nat) : Int)), .inl (.int .i64 ((((nq N k) / 4096) : Nat) : Int)), uu, uu] [(ai 22 (fun _ => 0), 35), (ai 44 (updN (inF N k) k ((nq N k) % 4096)), 95)] [(ai 22 (fun _ => 0), 35), (ai 44 (updN (inF N k) k ((nq N k) % 4096)), 95)] [#[], #[]] [⟨none, none, none, true⟩, nn, nn] (by kernel_rfl) (by kernel_rfl) (by kernel_rfl) (by kernel_rfl) (by kernel_rfl) (by kernel_rfl) (by kernel_rfl) (by kernel_rfl) ?_ ?_
    · refine ok_cons (ok_mv0 rfl (by kernel_rfl) rfl (by kernel_rfl) (by kernel_rfl)) ?_
      refine ok_cons (ok_bin (x1 := .int .i64 ((k : Nat) : Int)) (u1 := .int .i64 ((1 : Nat) : Int)) (v := .int .i64 (((k + 1) : Nat) : Int)) (ad_i (m := k) (n := 1) (by omega)) rfl (by kernel_rfl) rfl (by kernel_rfl) (by kernel_rfl) (by kernel_rfl) (by kernel_rfl) (by kernel_rfl)) ?_
      refine ok_cons (ok_mv (Or.inr rfl) (by kernel_rfl) rfl (by kernel_rfl) (by kernel_rfl)) ?_
      exact ok_nil
    clear h; intro β a w h
    replace h := St.setm h 1 (c := ai 44 (updN (inF N k) k ((nq N k) % 4096))) (c' := ai 44 (inF N (k + 1))) (t := 95) (m' := [(ai 22 (fun _ => 0), 35), (ai 44 (inF N (k + 1)), 95)]) (inF_next N k) (by kernel_rfl) (by kernel_rfl)
    replace h := St.sets h 0 (v := .int .i64 ((((nq N k) / 4096) : Nat) : Int)) (v' := .int .i64 (((nq N (k + 1)) : Nat) : Int)) (s' := [.inl (.int .i64 (((nq N (k + 1)) : Nat) : Int)), uu, .inr (0, 0), .inr (1, 0), .inl (.int .i64 (((k + 1) : Nat) : Int)), .inl (.int .i64 ((N : Nat) : Int)), .inl (.bool false), uu, uu, uu, uu, uu, uu, uu, uu, .inl (.int .i64 ((k : Nat) : Int)), .inl (.bool true), .inl (.int .i64 ((k : Nat) : Int)), .inl (.int .i64 (((k + 1) : Nat) : Int)), .inl (.int .i64 ((k : Nat) : Int)), .inl (.int .i64 (((nq N k) : Nat) : Int)), .inl (.int .i64 ((((nq N k) % 4096) : Nat) : Int)), .inr (1, k), .inl (.int .i64 (((nq N k) : Nat) : Int)), .inl (.int .i64 ((((nq N k) / 4096) : Nat) : Int)), uu, uu]) (ic (nq_next N k)) (by kernel_rfl) (by kernel_rfl)
    exact ⟨hltk, _, _, _, _, _, _, _, _, _, _, _, h⟩
  · obtain rfl : k = 6 := by omega
    refine sym_seq ?_
    refine sym_seq ?_
    refine St.region h [.inl (.int .i64 (((nq N 6) : Nat) : Int)), uu, .inr (0, 0), .inr (1, 0), .inl (.int .i64 ((6 : Nat) : Int)), .inl (.int .i64 ((N : Nat) : Int)), .inl (.bool false), uu, uu, uu, uu, uu, uu, uu, uu, .inl (.int .i64 ((6 : Nat) : Int)), .inl (.bool false), x17, x18, x19, x20, x21, x22, x23, x24, uu, uu] [(ai 22 (fun _ => 0), 35), (ai 44 (inF N 6), 95)] [(ai 22 (fun _ => 0), 35), (ai 44 (inF N 6), 95)] [#[], #[]] [nn, nn] (by kernel_rfl) (by kernel_rfl) (by kernel_rfl) (by kernel_rfl) (by kernel_rfl) (by kernel_rfl) (by kernel_rfl) (by kernel_rfl) ?_ ?_
    · refine ok_cons (ok_mv (Or.inl rfl) (by kernel_rfl) rfl (by kernel_rfl) (by kernel_rfl)) ?_
      refine ok_cons (ok_bin (x1 := .int .i64 ((6 : Nat) : Int)) (u1 := .int .i64 ((6 : Nat) : Int)) (v := .bool false) (lt_i (m := ((6 : Nat) : Int)) (n := ((6 : Nat) : Int)) (decide_eq_false (by omega))) rfl (by kernel_rfl) rfl (by kernel_rfl) (by kernel_rfl) (by kernel_rfl) (by kernel_rfl) (by kernel_rfl)) ?_
      exact ok_nil
    clear h; intro β a w h
    refine sym_then ?_
    refine sym_cond_f h (by kernel_rfl) (by kernel_rfl) ?_
    refine wp_exit ?_
    refine then_exit ?_
    refine then_exit ?_
    refine blk_exit ?_
    refine sym_then ?_
    refine sym_seq ?_
    refine St.region h [.inl (.int .i64 (((nq N 6) : Nat) : Int)), uu, .inr (0, 0), .inr (1, 0), .inl (.int .i64 ((6 : Nat) : Int)), .inl (.int .i64 ((N : Nat) : Int)), .inl (.bool false), uu, uu, uu, uu, uu, uu, uu, uu, .inl (.int .i64 ((6 : Nat) : Int)), .inl (.bool false), x17, x18, x19, x20, x21, x22, x23, x24, .inl (.agg (ai 44 (inF N 6))), .inl (.agg (ai 22 (dg N)))] [(ai 22 (dg N), 35), (ai 44 (inF N 6), 95)] [(ai 22 (fun _ => 0), 35), (ai 44 (inF N 6), 95)] [ai 22 (dg N), #[]] [⟨none, none, some 1, false⟩, nn, ⟨none, some 0, none, false⟩] (by kernel_rfl) (by kernel_rfl) (by kernel_rfl) (by kernel_rfl) (by kernel_rfl) (by kernel_rfl) (by kernel_rfl) (by kernel_rfl) ?_ ?_
    · refine ok_cons (ok_load (b := 1) (off := 0) (c := ai 44 (inF N 6)) (v := .agg (ai 44 (inF N 6))) (ld44 (F := (inF N 6)) 95) rfl (by kernel_rfl) rfl (by kernel_rfl) (by kernel_rfl) (by kernel_rfl)) ?_
      refine ok_cons (ok_call (vs := #[.agg (ai 44 (inF N 6))]) (R := .agg (ai 22 (dg N))) (fun w => int_least hN w) rfl (by kernel_rfl) rfl (by kernel_rfl) (by kernel_rfl) (by kernel_rfl) (fun w => by kernel_rfl)) ?_
      refine ok_cons (ok_store (b := 0) (off := 0) (u := .agg (ai 22 (dg N))) (c := ai 22 (fun _ => 0)) (n := ai 22 (dg N)) (st22 (F := (dg N)) (c := ai 22 (fun _ => 0)) 35 (ai_size _ _)) rfl (by kernel_rfl) rfl (by kernel_rfl) (by kernel_rfl) (by kernel_rfl) (by kernel_rfl) (by kernel_rfl)) ?_
      exact ok_nil
    clear h; intro β a w h
    refine sym_then ?_
    refine wp_ret ?_
    exact sym_retc (b := 0) (t0 := 35) (c := ai 22 (dg N)) h Try.results37 (by kernel_rfl) (by kernel_rfl) (by kernel_rfl) Try.underlying35 rfl (by rw [ai_size]; kernel_rfl) (fun hb => ⟨rfl, hb⟩)
set_option maxHeartbeats 4000000 in
theorem intn_r {m : Nat} (h1 : 1 ≤ m) (h2 : m ≤ 9223372036854775808) (W0 : World) : Calls Try.prog 37 #[.int .i64 (-((m : Nat) : Int))] W0 fun e w' => e = .returned (.agg (ai 22 (dg (pp - m)))) ∧ Below W0.heap.size W0 w' := by
  have hm1 : m - 1 < pp := Nat.lt_of_le_of_lt (show m - 1 ≤ 9223372036854775808 by omega) (by decide +kernel)
  rw [← neg_eq h1 h2]
  refine sym_enter Try.func37 Try.ntmps37 rfl [.inl (.int .i64 (-((m : Nat) : Int))), uu, uu, uu, uu, uu, uu, uu, uu, uu, uu, uu, uu, uu, uu, uu, uu, uu, uu, uu, uu, uu, uu, uu, uu, uu, uu] (by kernel_rfl) (by kernel_rfl) ?_
  intro β a h
  refine sym_seq ?_
  refine St.region h [.inl (.int .i64 (-((m : Nat) : Int))), uu, .inr (0, 0), uu, uu, uu, uu, uu, uu, uu, uu, uu, uu, uu, uu, uu, uu, uu, uu, uu, uu, uu, uu, uu, uu, uu, uu] [(ai 22 (fun _ => 0), 35)] [(ai 22 (fun _ => 0), 35)] [#[]] [⟨some 0, none, none, false⟩] (by kernel_rfl) (by kernel_rfl) (by kernel_rfl) (by kernel_rfl) (by kernel_rfl) (by kernel_rfl) (by kernel_rfl) (by kernel_rfl) ?_ ?_
  · refine ok_cons (ok_alloc (b := 0) al22 rfl (by kernel_rfl) rfl (by kernel_rfl) (by kernel_rfl)) ?_
    exact ok_nil
  clear h; intro β a w h
  refine sym_then ?_
  refine sym_seq ?_
  refine sym_seq ?_
  refine St.region h [.inl (.int .i64 (-((m : Nat) : Int))), uu, .inr (0, 0), uu, uu, .inl (.int .i64 (-((m : Nat) : Int))), .inl (.bool true), uu, uu, uu, uu, uu, uu, uu, uu, uu, uu, uu, uu, uu, uu, uu, uu, uu, uu, uu, uu] [(ai 22 (fun _ => 0), 35)] [(ai 22 (fun _ => 0), 35)] [#[]] [nn, nn] (by kernel_rfl) (by kernel_rfl) (by kernel_rfl) (by kernel_rfl) (by kernel_rfl) (by kernel_rfl) (by kernel_rfl) (by kernel_rfl) ?_ ?_
  · refine ok_cons (ok_mv (Or.inl rfl) (by kernel_rfl) rfl (by kernel_rfl) (by kernel_rfl)) ?_
    refine ok_cons (ok_bin (x1 := .int .i64 (-((m : Nat) : Int))) (u1 := .int .i64 ((0 : Nat) : Int)) (v := .bool true) (lt_i (m := -((m : Nat) : Int)) (n := ((0 : Nat) : Int)) (decide_eq_true (by omega))) rfl (by kernel_rfl) rfl (by kernel_rfl) (by kernel_rfl) (by kernel_rfl) (by kernel_rfl) (by kernel_rfl)) ?_
    exact ok_nil
  clear h; intro β a w h
  refine sym_then ?_
  refine sym_cond_t h (by kernel_rfl) (by kernel_rfl) ?_
  refine sym_seq ?_
  refine St.region h [.inl (.int .i64 (-((m : Nat) : Int))), uu, .inr (0, 0), uu, uu, .inl (.int .i64 (-((m : Nat) : Int))), .inl (.bool true), .inl (.agg (ai 22 (dg 0))), .inl (.int .i64 (-((m : Nat) : Int))), .inl (.int .i64 (-((m : Nat) : Int) + ((1 : Nat) : Int))), .inl (.int .i64 (((m - 1) : Nat) : Int)), .inl (.agg (ai 22 (dg (m - 1)))), .inl (.agg (ai 22 (dg ((0 + (pp - (m - 1))) % pp)))), .inl (.agg (ai 22 (dg 1))), .inl (.agg (ai 22 (dg ((((0 + (pp - (m - 1))) % pp) + (pp - 1)) % pp)))), uu, uu, uu, uu, uu, uu, uu, uu, uu, uu, uu, uu] [(ai 22 (dg ((((0 + (pp - (m - 1))) % pp) + (pp - 1)) % pp)), 35)] [(ai 22 (fun _ => 0), 35)] [ai 22 (dg ((((0 + (pp - (m - 1))) % pp) + (pp - 1)) % pp))] [nn, nn, nn, nn, nn, nn, nn, nn, ⟨none, some 0, none, false⟩] (by kernel_rfl) (by kernel_rfl) (by kernel_rfl) (by kernel_rfl) (by kernel_rfl) (by kernel_rfl) (by kernel_rfl) (by kernel_rfl) ?_ ?_
  · refine ok_cons (ok_build (vs := #[]) (v := .agg (ai 22 (dg 0))) bd22 rfl (by kernel_rfl) rfl (by kernel_rfl) (by kernel_rfl) (by kernel_rfl)) ?_
    refine ok_cons (ok_mv (Or.inl rfl) (by kernel_rfl) rfl (by kernel_rfl) (by kernel_rfl)) ?_
    refine ok_cons (ok_bin (x1 := .int .i64 (-((m : Nat) : Int))) (u1 := .int .i64 ((1 : Nat) : Int)) (v := .int .i64 (-((m : Nat) : Int) + ((1 : Nat) : Int))) (ad_z (m := -((m : Nat) : Int)) (n := ((1 : Nat) : Int)) (by omega) (by omega)) rfl (by kernel_rfl) rfl (by kernel_rfl) (by kernel_rfl) (by kernel_rfl) (by kernel_rfl) (by kernel_rfl)) ?_
    refine ok_cons (ok_un (x1 := .int .i64 (-((m : Nat) : Int) + ((1 : Nat) : Int))) (v := .int .i64 (((m - 1) : Nat) : Int)) (ng_z (z := -((m : Nat) : Int) + ((1 : Nat) : Int)) (k := m - 1) (by omega) (by omega)) rfl (by kernel_rfl) rfl (by kernel_rfl) (by kernel_rfl) (by kernel_rfl)) ?_
    refine ok_cons (ok_call (vs := #[.int .i64 (((m - 1) : Nat) : Int)]) (R := .agg (ai 22 (dg (m - 1)))) (fun w => int_r (N := (m - 1)) (by omega) w) rfl (by kernel_rfl) rfl (by kernel_rfl) (by kernel_rfl) (by kernel_rfl) (fun w => by kernel_rfl)) ?_
    refine ok_cons (ok_call (vs := #[.agg (ai 22 (dg 0)), .agg (ai 22 (dg (m - 1)))]) (R := .agg (ai 22 (dg ((0 + (pp - (m - 1))) % pp)))) (fun w => minus_r (m := 0) (n := (m - 1)) (lt_big (by first | exact mod_pp _ | exact ofb_lt _ | assumption | exact pp_pos | exact one_lt | exact two_lt)) (Nat.le_of_lt (by first | exact mod_pp _ | exact ofb_lt _ | assumption | exact pp_pos | exact one_lt | exact two_lt)) w) rfl (by kernel_rfl) rfl (by kernel_rfl) (by kernel_rfl) (by kernel_rfl) (fun w => by kernel_rfl)) ?_
    refine ok_cons (ok_call (vs := #[.int .i64 ((1 : Nat) : Int)]) (R := .agg (ai 22 (dg 1))) (fun w => int_r (N := 1) (by omega) w) rfl (by kernel_rfl) rfl (by kernel_rfl) (by kernel_rfl) (by kernel_rfl) (fun w => by kernel_rfl)) ?_
    refine ok_cons (ok_call (vs := #[.agg (ai 22 (dg ((0 + (pp - (m - 1))) % pp))), .agg (ai 22 (dg 1))]) (R := .agg (ai 22 (dg ((((0 + (pp - (m - 1))) % pp) + (pp - 1)) % pp)))) (fun w => minus_r (m := ((0 + (pp - (m - 1))) % pp)) (n := 1) (lt_big (by first | exact mod_pp _ | exact ofb_lt _ | assumption | exact pp_pos | exact one_lt | exact two_lt)) (Nat.le_of_lt (by first | exact mod_pp _ | exact ofb_lt _ | assumption | exact pp_pos | exact one_lt | exact two_lt)) w) rfl (by kernel_rfl) rfl (by kernel_rfl) (by kernel_rfl) (by kernel_rfl) (fun w => by kernel_rfl)) ?_
    refine ok_cons (ok_store (b := 0) (off := 0) (u := .agg (ai 22 (dg ((((0 + (pp - (m - 1))) % pp) + (pp - 1)) % pp)))) (c := ai 22 (fun _ => 0)) (n := ai 22 (dg ((((0 + (pp - (m - 1))) % pp) + (pp - 1)) % pp))) (st22 (F := (dg ((((0 + (pp - (m - 1))) % pp) + (pp - 1)) % pp))) (c := ai 22 (fun _ => 0)) 35 (ai_size _ _)) rfl (by kernel_rfl) rfl (by kernel_rfl) (by kernel_rfl) (by kernel_rfl) (by kernel_rfl) (by kernel_rfl)) ?_
    exact ok_nil
  clear h; intro β a w h
  refine sym_then ?_
  refine wp_ret ?_
  refine then_ret ?_
  exact sym_retc (b := 0) (t0 := 35) (c := ai 22 (dg ((((0 + (pp - (m - 1))) % pp) + (pp - 1)) % pp))) h Try.results37 (by kernel_rfl) (by kernel_rfl) (by kernel_rfl) Try.underlying35 rfl (by rw [ai_size]; kernel_rfl) (fun hb => ⟨rfl, hb⟩)
end Go.Proofs.Ytgiemldmphbolaa

/- W2, D, W3, F, J, K, L, R, G, H, I, M, S, T, Y, X8, U, AnyRoot, M2, Root, P1, P2, Crv1: laid together. -/
import Derived.Laws.BitsAllLaws
import Derived.WalkKit
import Derived.ChangeKeysEq
import Derived.ProofKit
import Derived.OpenShut
import Derived.ShutString
import Derived.ChangeOld
import Derived.Test.YtpogmflgmpifoaaG1
namespace Go.Proofs.Ytpogmflgmpifoaa
open Go.RowKit

theorem aftc_cell (w : World) (g : Gr) (c : Obj) (b o : Nat) (hb : b < w.heap.size) : ((aft w g).alloc c).cell? ⟨b, o, none⟩ = w.cell? ⟨b, o, none⟩ := by
  simp only [aft_alloc]; exact aft_cell _ _ _ _ hb
theorem aftc_frozen (w : World) (g : Gr) (c : Obj) (b o : Nat) (hb : b < w.heap.size) : ((aft w g).alloc c).frozen? ⟨b, o, none⟩ = w.frozen? ⟨b, o, none⟩ := by
  simp only [aft_alloc]; exact aft_frozen _ _ _ _ hb
theorem aftc_set (w : World) (g : Gr) (c : Obj) (b o : Nat) (v : Value) (hb : b < w.heap.size) : ((aft w g).alloc c).setCell ⟨b, o, none⟩ v = (aft (w.setCell ⟨b, o, none⟩ v) g).alloc c := by
  simp only [aft_alloc]; exact aft_set _ _ _ _ _ hb
theorem aftc_below (w : World) (g : Gr) (c : Obj) : Below w.heap.size w ((aft w g).alloc c) := by
  simp only [aft_alloc]; exact aft_below _ _
theorem aftcc_cell (w : World) (g : Gr) (c d : Obj) (b o : Nat) (hb : b < w.heap.size) : (((aft w g).alloc c).alloc d).cell? ⟨b, o, none⟩ = w.cell? ⟨b, o, none⟩ := by
  simp only [aft_alloc]; exact aft_cell _ _ _ _ hb
theorem aftcc_frozen (w : World) (g : Gr) (c d : Obj) (b o : Nat) (hb : b < w.heap.size) : (((aft w g).alloc c).alloc d).frozen? ⟨b, o, none⟩ = w.frozen? ⟨b, o, none⟩ := by
  simp only [aft_alloc]; exact aft_frozen _ _ _ _ hb
theorem aftcc_set (w : World) (g : Gr) (c d : Obj) (b o : Nat) (v : Value) (hb : b < w.heap.size) : (((aft w g).alloc c).alloc d).setCell ⟨b, o, none⟩ v = ((aft (w.setCell ⟨b, o, none⟩ v) g).alloc c).alloc d := by
  simp only [aft_alloc]; exact aft_set _ _ _ _ _ hb
theorem aftcc_below (w : World) (g : Gr) (c d : Obj) : Below w.heap.size w (((aft w g).alloc c).alloc d) := by
  simp only [aft_alloc]; exact aft_below _ _
theorem aft2_cell (w : World) (g h : Gr) (c : Obj) (b o : Nat) (hb : b < w.heap.size) : (aft ((aft w g).alloc c) h).cell? ⟨b, o, none⟩ = w.cell? ⟨b, o, none⟩ := by
  simp only [aft_alloc, aft_aft]; exact aft_cell _ _ _ _ hb
theorem aft2_frozen (w : World) (g h : Gr) (c : Obj) (b o : Nat) (hb : b < w.heap.size) : (aft ((aft w g).alloc c) h).frozen? ⟨b, o, none⟩ = w.frozen? ⟨b, o, none⟩ := by
  simp only [aft_alloc, aft_aft]; exact aft_frozen _ _ _ _ hb
theorem aft2_set (w : World) (g h : Gr) (c : Obj) (b o : Nat) (v : Value) (hb : b < w.heap.size) : (aft ((aft w g).alloc c) h).setCell ⟨b, o, none⟩ v = aft ((aft (w.setCell ⟨b, o, none⟩ v) g).alloc c) h := by
  simp only [aft_alloc, aft_aft]; exact aft_set _ _ _ _ _ hb
theorem aft2_below (w : World) (g h : Gr) (c : Obj) : Below w.heap.size w (aft ((aft w g).alloc c) h) := by
  simp only [aft_alloc, aft_aft]; exact aft_below _ _
theorem aft3_cell (w : World) (g h : Gr) (c d : Obj) (b o : Nat) (hb : b < w.heap.size) : (aft (((aft w g).alloc c).alloc d) h).cell? ⟨b, o, none⟩ = w.cell? ⟨b, o, none⟩ := by
  simp only [aft_alloc, aft_aft]; exact aft_cell _ _ _ _ hb
theorem aft3_frozen (w : World) (g h : Gr) (c d : Obj) (b o : Nat) (hb : b < w.heap.size) : (aft (((aft w g).alloc c).alloc d) h).frozen? ⟨b, o, none⟩ = w.frozen? ⟨b, o, none⟩ := by
  simp only [aft_alloc, aft_aft]; exact aft_frozen _ _ _ _ hb
theorem aft3_set (w : World) (g h : Gr) (c d : Obj) (b o : Nat) (v : Value) (hb : b < w.heap.size) : (aft (((aft w g).alloc c).alloc d) h).setCell ⟨b, o, none⟩ v = aft (((aft (w.setCell ⟨b, o, none⟩ v) g).alloc c).alloc d) h := by
  simp only [aft_alloc, aft_aft]; exact aft_set _ _ _ _ _ hb
theorem aft3_below (w : World) (g h : Gr) (c d : Obj) : Below w.heap.size w (aft (((aft w g).alloc c).alloc d) h) := by
  simp only [aft_alloc, aft_aft]; exact aft_below _ _
end Go.Proofs.Ytpogmflgmpifoaa

namespace Go.Proofs.Ytpogmflgmpifoaa
open Go.RowKit

/-- The prime. -/
def pp : Nat := 57896044618658097711785492504343953926634992332820282019728792003956564819949

/-- An element's value: its four words. -/
abbrev el (x : Nat → Nat) : Value := .agg #[.int .u64 (x 0), .int .u64 (x 1), .int .u64 (x 2), .int .u64 (x 3)]
/-- Its number. -/
def nm (x : Nat → Nat) : Nat := num (x 0) (x 1) (x 2) (x 3)
/-- Four words as a function. -/
def four (a b c d : Nat) : Nat → Nat
  | 0 => a
  | 1 => b
  | 2 => c
  | _ => d
/-- It is an element: four words, below the prime. -/
def Ok (x : Nat → Nat) : Prop := (∀ i, x i < 18446744073709551616) ∧ nm x < pp

theorem orTop (n d : Nat) (hn : n < 4294967296) (hd : d < 18446744073709551616) : bits .or .u64 ((n : Int) * 2) ((d : Int) / 9223372036854775808) = ((2 * n + d / 9223372036854775808 : Nat) : Int) := by
  have h := u64_or_nat (n * 2) (d / 9223372036854775808) (by omega) (by omega)
  have e : n * 2 ||| d / 9223372036854775808 = 2 * n + d / 9223372036854775808 := by
    have := Nat.two_pow_add_eq_or_of_lt (i := 1) (b := d / 9223372036854775808) (by omega) n
    rw [Nat.mul_comm n 2, ← this]
  rw [e] at h
  simpa using h

theorem settle_math {a b c d o T S D x y z t k x' y' z' t' k' E : Nat} (ha : a < 18446744073709551616) (hb : b < 18446744073709551616) (hc : c < 18446744073709551616)
    (HT : T = 2 * o + d / 9223372036854775808) (HS : S = 19 * T) (HD : D = d % 9223372036854775808) (hT : T < 8589934592)
    (e1 : num x y z t + 115792089237316195423570985008687907853269984665640564039457584007913129639936 * k = num a b c D + S)
    (e2 : num x' y' z' t' + 115792089237316195423570985008687907853269984665640564039457584007913129639936 * k' = num x y z t + 19)
    (hx : x < 18446744073709551616) (hy : y < 18446744073709551616) (hz : z < 18446744073709551616) (ht : t < 18446744073709551616)
    (hx' : x' < 18446744073709551616) (hy' : y' < 18446744073709551616) (hz' : z' < 18446744073709551616) (ht' : t' < 18446744073709551616) (HE : E = t' % 9223372036854775808) :
    (t' / 9223372036854775808 = 1 → Ok (four x' y' z' E) ∧ nm (four x' y' z' E) = (num a b c d + 115792089237316195423570985008687907853269984665640564039457584007913129639936 * o) % pp) ∧
    (¬ t' / 9223372036854775808 = 1 → Ok (four x y z t) ∧ nm (four x y z t) = (num a b c d + 115792089237316195423570985008687907853269984665640564039457584007913129639936 * o) % pp) := by
  have key : num a b c d + 115792089237316195423570985008687907853269984665640564039457584007913129639936 * o = num x y z t + pp * T := by
    unfold num pp at *
    have hV : k = 0 := by omega
    subst hV
    omega
  rw [key, Nat.add_mul_mod_self_left]
  have hV : num x y z t < 57896044618658097711785492504343953926634992332820282019728792003956564819949 + 163208757248 := by
    unfold num at *
    omega
  have hW : num x' y' z' t' = num x y z t + 19 := by
    have : k' = 0 := by
      clear key e1
      generalize num x y z t = V at *
      omega
    subst this; omega
  constructor
  · intro h
    have hE : num x' y' z' E + 57896044618658097711785492504343953926634992332820282019728792003956564819968 = num x y z t + 19 := by
      rw [← hW]; unfold num; omega
    clear e1 e2 key
    have hlt : num x' y' z' E < pp := by unfold pp; omega
    refine ⟨⟨fun i => ?_, hlt⟩, ?_⟩
    · match i with
      | 0 => exact hx'
      | 1 => exact hy'
      | 2 => exact hz'
      | _ + 3 => show E < _; omega
    · show num x' y' z' E = _
      have : num x y z t = num x' y' z' E + pp := by unfold pp; omega
      rw [this, Nat.add_mod_right, Nat.mod_eq_of_lt hlt]
  · intro h
    have hlt : num x y z t < pp := by
      have h0 : t' < 9223372036854775808 := by omega
      have : num x' y' z' t' < 57896044618658097711785492504343953926634992332820282019728792003956564819968 := by unfold num; omega
      unfold pp; omega
    refine ⟨⟨fun i => ?_, hlt⟩, ?_⟩
    · match i with
      | 0 => exact hx
      | 1 => exact hy
      | 2 => exact hz
      | _ + 3 => exact ht
    · show num x y z t = _
      rw [Nat.mod_eq_of_lt hlt]

set_option maxHeartbeats 1000000 in
theorem settle_any (a b c d o : Nat) (ha : a < 18446744073709551616) (hb : b < 18446744073709551616) (hc : c < 18446744073709551616) (hd : d < 18446744073709551616) (ho : o < 4294967296) :
    ∃ x : Nat → Nat, Ok x ∧ Hid (nm x = (num a b c d + 115792089237316195423570985008687907853269984665640564039457584007913129639936 * o) % pp) ∧
    ∀ w, Calls Try.prog 55 #[wv a b c d, .int .u64 o] w fun e w' => e = .returned (el x) ∧ Below w.heap.size w w' := by
  obtain ⟨T, HT⟩ : ∃ T, Hid (T = 2 * o + d / 9223372036854775808) := ⟨_, hide1 rfl⟩
  obtain ⟨S, HS⟩ : ∃ S, Hid (S = 19 * T) := ⟨_, hide1 rfl⟩
  obtain ⟨D, HD⟩ : ∃ D, Hid (D = d % 9223372036854775808) := ⟨_, hide1 rfl⟩
  have hT : T < 8589934592 := by have := HT.out; omega
  have hS : S < 163208757248 := by have := HS.out; omega
  have hD : D < 9223372036854775808 := by have := HD.out; omega
  have hr := orTop o d ho hd
  rw [← HT.out] at hr
  have hm : (19 : Int) * (T : Int) = (S : Int) := by have := HS.out; omega
  obtain ⟨x, y, z, t, k, hx, hy, hz, ht, e1, c1⟩ := more_any a b c D S ha hb hc (by omega) (by omega)
  obtain ⟨x', y', z', t', k', hx', hy', hz', ht', e2, c2⟩ := more_any x y z t 19 hx hy hz ht (by omega)
  obtain ⟨E, HE⟩ : ∃ E, Hid (E = t' % 9223372036854775808) := ⟨_, hide1 rfl⟩
  have c0 := fun w => low_any a b c d hd w
  rw [← HD.out] at c0
  have c3 := fun w => low_any x' y' z' t' ht' w
  rw [← HE.out] at c3
  obtain ⟨m1, m2⟩ := settle_math ha hb hc HT.out HS.out HD.out hT e1.out e2.out hx hy hz ht hx' hy' hz' ht' HE.out
  by_cases htest : t' / 9223372036854775808 = 1
  · refine ⟨four x' y' z' E, (m1 htest).1, hide1 (m1 htest).2, fun w => ?_⟩
    have htest' : (t' : Int) / 9223372036854775808 = 1 := by omega
    clear htest HT HS HD HE e1 e2 m1 m2
    have hA1 := @aft_cell; have hA2 := @aft_frozen; have hA3 := @aft_set; have hA4 := @aft_lt; have hB1 := @aft2_cell; have hB2 := @aft2_frozen; have hB3 := @aft2_set; have hC1 := @aftc_cell; have hC2 := @aftc_frozen; have hC3 := @aftc_set
    go_enter Try.func55, Try.ntmps55
    go_wp2_with fail
    refine (c0 _).mono ?_
    rintro e w1 ⟨rfl, hb1⟩
    clear c0
    go_wp2_with fail
    refine (c1 _).mono ?_
    rintro e w2 ⟨rfl, hb2⟩
    replace hb1 := bnext hb1 hb2
    clear hb2 c1
    obtain ⟨g1, rfl⟩ := aft_of hb1
    clear hb1
    go_wp2_with fail
    refine (c2 _).mono ?_
    rintro e w3 ⟨rfl, hb3⟩
    clear c2
    obtain ⟨g3, rfl⟩ := aft_of hb3
    clear hb3
    rw [aft_aft]
    generalize (Gr.mk (g1.bl ++ g3.bl) g3.dr) = g
    go_wp2_with fail
    refine (c3 _).mono ?_
    rintro e w4 ⟨rfl, hb4⟩
    clear c3
    obtain ⟨g4, rfl⟩ := aft_of hb4
    clear hb4
    go_wp2_with fail
    exact bodyPost_ret (v := el (four x' y' z' E)) (by simp [results, Try.results55, go_sem, hB1, four]) rfl ⟨rfl, bnext (below2 _ _ _) (aft2_below _ _ _ _)⟩
  · refine ⟨four x y z t, (m2 htest).1, hide1 (m2 htest).2, fun w => ?_⟩
    have htest' : ((t' : Int) / 9223372036854775808 == 1) = false := by simp; omega
    clear htest HT HS HD HE e1 e2 m1 m2 c3
    have hA1 := @aft_cell; have hA2 := @aft_frozen; have hA3 := @aft_set; have hA4 := @aft_lt; have hB1 := @aft2_cell; have hB2 := @aft2_frozen; have hB3 := @aft2_set; have hC1 := @aftc_cell; have hC2 := @aftc_frozen; have hC3 := @aftc_set
    go_enter Try.func55, Try.ntmps55
    go_wp2_with fail
    refine (c0 _).mono ?_
    rintro e w1 ⟨rfl, hb1⟩
    clear c0
    go_wp2_with fail
    refine (c1 _).mono ?_
    rintro e w2 ⟨rfl, hb2⟩
    replace hb1 := bnext hb1 hb2
    clear hb2 c1
    obtain ⟨g1, rfl⟩ := aft_of hb1
    clear hb1
    go_wp2_with fail
    refine (c2 _).mono ?_
    rintro e w3 ⟨rfl, hb3⟩
    clear c2
    obtain ⟨g3, rfl⟩ := aft_of hb3
    clear hb3
    rw [aft_aft]
    generalize (Gr.mk (g1.bl ++ g3.bl) g3.dr) = g
    go_wp2_with fail
    exact bodyPost_ret (v := el (four x y z t)) (by simp [results, Try.results55, go_sem, hC1, four]) rfl ⟨rfl, bnext (below2 _ _ _) (aftc_below _ _ _)⟩
end Go.Proofs.Ytpogmflgmpifoaa

namespace Go.Proofs.Ytpogmflgmpifoaa
open Go.RowKit

theorem run_items {P : Program} (e : TypeId) (k k' : IntKind) (hag : ∀ w, (isAgg e).run P w = .ok false w) (he : P.underlying e = some (.int k')) (X Y : Array Value) (x y : Nat → Int) (d : Nat) (w : World) :
    ∀ is : List Nat, (∀ i ∈ is, X[i]? = some (.int k (x i))) → (∀ i ∈ is, Y[i]? = some (.int k (y i))) →
      (Op.eqItems (d + 1) e 1 X Y is).run P w = .ok (decide (∀ i ∈ is, x i = y i)) w := by
  intro is
  induction is with
  | nil => intro _ _; simp [Op.eqItems]
  | cons i is ih =>
    intro hx hy
    have h1 := hx i (by simp); have h2 := hy i (by simp)
    have ih' := ih (fun j hj => hx j (by simp [hj])) (fun j hj => hy j (by simp [hj]))
    simp only [Op.eqItems, part, Sem.run_bind, hag, Result.andThen_ok, Nat.mul_one, h1, h2, Bool.false_eq_true, if_false, Sem.run_pure, run_equalIn_int w d e k k' _ _ he]
    by_cases hxy : x i = y i
    · simp only [hxy, beq_self_eq_true, Bool.not_true, Bool.false_eq_true, if_false, ih']
      simp [hxy]
    · have : (x i == y i) = false := by simp [hxy]
      simp only [this, Bool.not_false, if_true, Sem.run_pure]
      simp [hxy]

theorem eq_ints {P : Program} {t e n : Nat} {k k' : IntKind} {inf : TypeInfo} (hu : P.underlying t = some (.array n e)) (hi : P.info? e = some inf) (hc : P.cellsOf e = 1) (he : P.underlying e = some (.int k')) (hag : ∀ w, (isAgg e).run P w = .ok false w)
    (X Y : Array Value) (x y : Nat → Int) (hx : ∀ i, i < n → X[i]? = some (.int k (x i))) (hy : ∀ i, i < n → Y[i]? = some (.int k (y i))) (w : World) :
    (Op.equalIn 10000 t (.agg X) (.agg Y)).run P w = .ok (decide (∀ i, i < n → x i = y i)) w := by
  have h := run_equalIn_array w 9999 X Y hu hi
  rw [show (10000 : Nat) = 9999 + 1 from rfl, h, hc, run_items e k k' hag he X Y x y 9998 w (List.range n) (fun i hi => hx i (by simpa using hi)) (fun i hi => hy i (by simpa using hi))]
  congr 1
  simp
end Go.Proofs.Ytpogmflgmpifoaa

namespace Go.Proofs.Ytpogmflgmpifoaa
open Go.RowKit

theorem ok_lt {x : Nat → Nat} (h : Ok x) : num (x 0) (x 1) (x 2) (x 3) < pp := h.2

set_option maxHeartbeats 1000000 in
theorem plus_any (x y : Nat → Nat) (hx : Ok x) (hy : Ok y) :
    ∃ z : Nat → Nat, Ok z ∧ Hid (nm z = (nm x + nm y) % pp) ∧
    ∀ w, Calls Try.prog 60 #[el x, el y] w fun e w' => e = .returned (el z) ∧ Below w.heap.size w w' := by
  obtain ⟨a, b, c, d, k, ha, hb, hc, hd, hk, e1, c1⟩ := with_any (x 0) (x 1) (x 2) (x 3) 1 (y 0) (y 1) (y 2) (y 3) (hx.1 0) (hx.1 1) (hx.1 2) (hx.1 3) (by omega) (hy.1 0) (hy.1 1) (hy.1 2) (hy.1 3)
  have hk' : k < 4294967296 := by
    have h1 := ok_lt hx; have h2 := ok_lt hy; have := e1.out; unfold pp at *; omega
  obtain ⟨z, hz, e2, c2⟩ := settle_any a b c d k ha hb hc hd hk'
  refine ⟨z, hz, hide1 ?_, fun w => ?_⟩
  · rw [e2.out, e1.out, Nat.one_mul]; rfl
  clear e1 e2 hz
  have hA1 := @aft_cell; have hA2 := @aft_frozen; have hA3 := @aft_set
  go_enter Try.func60, Try.ntmps60
  go_wp2_with fail
  refine (c1 _).mono ?_
  rintro e w1 ⟨rfl, hb1⟩
  go_wp2_with fail
  refine (c2 _).mono ?_
  rintro e w2 ⟨rfl, hb2⟩
  obtain ⟨g, rfl⟩ := aft_of (bnext hb1 hb2)
  clear hb1 hb2 c1 c2
  go_wp2_with fail
  exact bodyPost_ret (v := el z) (by simp [results, Try.results60, go_sem, hA1]) rfl ⟨rfl, bnext (below3 _ _ _ _) (aft_below _ _)⟩

set_option maxHeartbeats 1000000 in
theorem times_el (x y : Nat → Nat) (hx : Ok x) (hy : Ok y) :
    ∃ z : Nat → Nat, Ok z ∧ Hid (nm z = (nm x * nm y) % pp) ∧
    ∀ w, Calls Try.prog 58 #[el x, el y] w fun e w' => e = .returned (el z) ∧ Below w.heap.size w w' := by
  obtain ⟨p, q, r, s, p', q', r', s', hp, hq, hr, hs, hp', hq', hr', hs', e0, c0⟩ := times_any (x 0) (x 1) (x 2) (x 3) (y 0) (y 1) (y 2) (y 3) (hx.1 0) (hx.1 1) (hx.1 2) (hx.1 3) (hy.1 0) (hy.1 1) (hy.1 2) (hy.1 3)
  obtain ⟨a, b, c, d, k, ha, hb, hc, hd, hk, e1, c1⟩ := with_any p q r s 38 p' q' r' s' hp hq hr hs (by omega) hp' hq' hr' hs'
  have hk' : k < 4294967296 := by
    have := e1.out; unfold num at this; omega
  obtain ⟨z, hz, e2, c2⟩ := settle_any a b c d k ha hb hc hd hk'
  refine ⟨z, hz, hide1 ?_, fun w => ?_⟩
  · have h0 := e0.out
    have h : num p q r s + 115792089237316195423570985008687907853269984665640564039457584007913129639936 * num p' q' r' s' = num p q r s + 38 * num p' q' r' s' + pp * (2 * num p' q' r' s') := by unfold pp; omega
    rw [e2.out, e1.out]
    show _ = num (x 0) (x 1) (x 2) (x 3) * num (y 0) (y 1) (y 2) (y 3) % pp
    rw [← h0, h, Nat.add_mul_mod_self_left]
  clear e0 e1 e2 hz
  have hA1 := @aft_cell; have hA2 := @aft_frozen; have hA3 := @aft_set
  have hB1 := @aft3_cell; have hB2 := @aft3_frozen; have hB3 := @aft3_set
  go_enter Try.func58, Try.ntmps58
  go_wp2_with fail
  refine (c0 _).mono ?_
  rintro e w1 ⟨rfl, hb1⟩
  obtain ⟨g, rfl⟩ := aft_of hb1
  clear hb1 c0
  go_wp2_with fail
  refine (c1 _).mono ?_
  rintro e w1 ⟨rfl, hb1⟩
  go_wp2_with fail
  refine (c2 _).mono ?_
  rintro e w2 ⟨rfl, hb2⟩
  obtain ⟨h, rfl⟩ := aft_of (bnext hb1 hb2)
  clear hb1 hb2 c1 c2
  go_wp2_with fail
  exact bodyPost_ret (v := el z) (by simp [results, Try.results58, go_sem, hB1]) rfl ⟨rfl, bnext (below3 _ _ _ _) (aft3_below _ _ _ _ _)⟩

/-- The prime's words. -/
theorem prime_any (w : World) : Calls Try.prog 63 #[] w fun e w' => e = .returned (wv 18446744073709551597 18446744073709551615 18446744073709551615 9223372036854775807) ∧ Below w.heap.size w w' := by
  go_enter Try.func63, Try.ntmps63
  go_wp2
  exact bodyPost_ret (v := wv 18446744073709551597 18446744073709551615 18446744073709551615 9223372036854775807) (by simp [results, Try.results63, go_sem]) rfl ⟨rfl, below1 _ _⟩

theorem beq_words {x y : Nat → Nat} (hx : ∀ i, x i < 18446744073709551616) (hy : ∀ i, y i < 18446744073709551616) : (nm x = nm y) ↔ (x 0 = y 0 ∧ x 1 = y 1 ∧ x 2 = y 2 ∧ x 3 = y 3) := by
  have a0 := hx 0; have a1 := hx 1; have a2 := hx 2; have a3 := hx 3
  have b0 := hy 0; have b1 := hy 1; have b2 := hy 2; have b3 := hy 3
  unfold nm num
  omega

set_option maxRecDepth 100000 in
theorem eq_words (x y : Nat → Nat) (hx : Ok x) (hy : Ok y) (w : World) : (Op.equalIn 10000 27 (el x) (el y)).run Try.prog w = .ok (decide (nm x = nm y)) w := by
  rw [eq_ints (e := 25) (n := 4) (k := .u64) (k' := .u64) Try.underlying27 (inf := _) rfl (by kernel_rfl) Try.underlying25 (fun _ => by kernel_rfl) _ _ (fun i => (x i : Int)) (fun i => (y i : Int))
    (fun i hi => by match i, hi with
      | 0, _ => rfl
      | 1, _ => rfl
      | 2, _ => rfl
      | 3, _ => rfl) (fun i hi => by match i, hi with
      | 0, _ => rfl
      | 1, _ => rfl
      | 2, _ => rfl
      | 3, _ => rfl) w]
  congr 1
  rw [decide_eq_decide, beq_words hx.1 hy.1]
  constructor
  · intro h
    have a0 := h 0 (by omega); have a1 := h 1 (by omega); have a2 := h 2 (by omega); have a3 := h 3 (by omega)
    omega
  · rintro ⟨a0, a1, a2, a3⟩ i hi
    match i, hi with
    | 0, _ => simp [a0]
    | 1, _ => simp [a1]
    | 2, _ => simp [a2]
    | 3, _ => simp [a3]

theorem is_any (x y : Nat → Nat) (hx : Ok x) (hy : Ok y) (w : World) :
    Calls Try.prog 28 #[el x, el y] w fun e w' => e = .returned (.bool (decide (nm x = nm y))) ∧ Below w.heap.size w w' := by
  have hb := eq_words x y hx hy
  go_enter Try.func28, Try.ntmps28
  go_wp2
  go_ret
  exact ⟨rfl, below2 _ _ _⟩

theorem even_any (x : Nat → Nat) (hx : Ok x) (w : World) :
    Calls Try.prog 47 #[el x] w fun e w' => e = .returned (.bool (decide (nm x % 2 = 0))) ∧ Below w.heap.size w w' := by
  have h0 := hx.1 0
  have h1 : (bits BinOp.and IntKind.u64 ((x 0 : Nat) : Int) 1 == 0) = decide (nm x % 2 = 0) := by
    have h := u64_and_nat (x 0) 1 h0 (by omega)
    have h2 : bits BinOp.and IntKind.u64 ((x 0 : Nat) : Int) 1 = ((x 0 % 2 : Nat) : Int) := by
      rw [nat_mask1] at h; exact h
    rw [h2]
    have h3 : nm x % 2 = x 0 % 2 := by unfold nm num; omega
    rw [h3, Bool.eq_iff_iff]; simp; omega
  go_enter Try.func47, Try.ntmps47
  go_wp2
  go_ret
  exact ⟨rfl, below1 _ _⟩
end Go.Proofs.Ytpogmflgmpifoaa

namespace Go.Proofs.Ytpogmflgmpifoaa
open Go.RowKit

set_option maxHeartbeats 2000000 in
theorem minus_any (x y : Nat → Nat) (hx : Ok x) (hy : Ok y) :
    ∃ z : Nat → Nat, Ok z ∧ Hid (nm z = (nm x + (pp - nm y)) % pp) ∧
    ∀ w, Calls Try.prog 29 #[el x, el y] w fun e w' => e = .returned (el z) ∧ Below w.heap.size w w' := by
  obtain ⟨p, q, r, s, j, hp, hq, hr, hs, hj, e0, c0⟩ := less_any 18446744073709551597 18446744073709551615 18446744073709551615 9223372036854775807 (y 0) (y 1) (y 2) (y 3) (by omega) (by omega) (by omega) (by omega) (hy.1 0) (hy.1 1) (hy.1 2) (hy.1 3)
  obtain ⟨a, b, c, d, k, ha, hb, hc, hd, hk, e1, c1⟩ := with_any (x 0) (x 1) (x 2) (x 3) 1 p q r s (hx.1 0) (hx.1 1) (hx.1 2) (hx.1 3) (by omega) hp hq hr hs
  have hpr : num 18446744073709551597 18446744073709551615 18446744073709551615 9223372036854775807 = pp := rfl
  have hj0 : num p q r s + nm y = pp := by
    have h1 := ok_lt hy; have := e0.out; rw [hpr] at this
    have hb : num p q r s < 115792089237316195423570985008687907853269984665640564039457584007913129639936 := by unfold num; omega
    unfold nm
    generalize num p q r s = A at *
    generalize num (y 0) (y 1) (y 2) (y 3) = B at *
    unfold pp at *
    omega
  have hk' : k < 4294967296 := by
    have h1 := ok_lt hx; have := e1.out
    generalize num p q r s = A at *
    generalize num (x 0) (x 1) (x 2) (x 3) = B at *
    generalize num a b c d = C at *
    unfold pp at *; omega
  obtain ⟨z, hz, e2, c2⟩ := settle_any a b c d k ha hb hc hd hk'
  refine ⟨z, hz, hide1 ?_, fun w => ?_⟩
  · rw [e2.out, e1.out, Nat.one_mul]
    have : pp - nm y = num p q r s := by omega
    rw [this]; rfl
  clear e0 e1 e2 hz hj0 hpr
  have hA1 := @aft_cell; have hA2 := @aft_frozen; have hA3 := @aft_set; have hA4 := @aft_aft; have hA5 := @aft_drew_in
  go_enter Try.func29, Try.ntmps29
  go_wp2_with fail
  go_region_with (first
    | (go_at_call 63; refine (prime_any _).mono ?_; rintro e w1 ⟨rfl, hb1⟩; obtain ⟨g1, rfl⟩ := aft_of hb1; clear hb1)
    | (go_at_call 64; refine (c0 _).mono ?_; rintro e w1 ⟨rfl, hb1⟩; obtain ⟨g2, rfl⟩ := aft_of hb1; clear hb1)
    | (go_at_call 62; refine (c1 _).mono ?_; rintro e w1 ⟨rfl, hb1⟩; obtain ⟨g3, rfl⟩ := aft_of hb1; clear hb1)
    | (go_at_call 55; refine (c2 _).mono ?_; rintro e w1 ⟨rfl, hb1⟩; obtain ⟨g4, rfl⟩ := aft_of hb1; clear hb1))
  all_goals go_wp2
  all_goals exact bodyPost_ret (v := el z) (by simp [results, Try.results29, go_sem, hA1]) rfl ⟨rfl, bnext (below3 _ _ _ _) (aft_below _ _)⟩
end Go.Proofs.Ytpogmflgmpifoaa

namespace Go.Proofs.Ytpogmflgmpifoaa
open Go.RowKit

/-- The cells of an element. -/
abbrev cs (x : Nat → Nat) : Array Value := #[.int .u64 (x 0), .int .u64 (x 1), .int .u64 (x 2), .int .u64 (x 3)]

theorem cs_one (x : Nat → Nat) : (cs x).all (·.oneCell') = true := by
  rw [Array.all_eq_true_iff_forall_mem]
  intro v hv
  simp only [cs, List.mem_toArray, List.mem_cons, List.not_mem_nil, or_false] at hv
  rcases hv with rfl | rfl | rfl | rfl <;> rfl

theorem ok_four (m : Nat) (hm : m < 18446744073709551616) : Ok (four m 0 0 0) ∧ nm (four m 0 0 0) = m := by
  refine ⟨⟨fun i => ?_, ?_⟩, ?_⟩
  · match i with
    | 0 => exact hm
    | 1 => show 0 < _; omega
    | 2 => show 0 < _; omega
    | _ + 3 => show 0 < _; omega
  · show num m 0 0 0 < pp; unfold num pp; omega
  · show num m 0 0 0 = m; unfold num; omega

set_option maxHeartbeats 1000000 in
theorem int_neg (m : Nat) (h1 : 1 ≤ m) (h2 : m ≤ 9223372036854775808) :
    ∃ x : Nat → Nat, Ok x ∧ Hid (nm x = (pp - m) % pp) ∧
    ∀ w, Calls Try.prog 49 #[.int .i64 (-(m : Int))] w fun e w' => e = .returned (el x) ∧ Below w.heap.size w w' := by
  have o0 := ok_four 0 (by omega); have o1 := ok_four m (by omega)
  obtain ⟨z, hz, e1, c1⟩ := minus_any _ _ o0.1 o1.1
  refine ⟨z, hz, hide1 ?_, fun w => ?_⟩
  · rw [e1.out, o0.2, o1.2, Nat.zero_add]
  have hw : IntKind.u64.wrap (-(m : Int)) = 18446744073709551616 - (m : Int) := by rw [IntKind.wrap_u64]; omega
  have hw2 : IntKind.u64.wrap (-(18446744073709551616 - (m : Int))) = (m : Int) := by rw [IntKind.wrap_u64]; omega
  have hneg : (-(m : Int)) < 0 := by omega
  have hA1 := @aft_cell; have hA2 := @aft_frozen; have hA3 := @aft_set
  clear e1 hz
  go_enter Try.func49, Try.ntmps49
  go_wp2_with fail
  refine (c1 _).mono ?_
  rintro e w1 ⟨rfl, hb1⟩
  obtain ⟨g, rfl⟩ := aft_of hb1
  clear hb1 c1
  go_wp2_with fail
  exact bodyPost_ret (v := el z) (by simp [results, Try.results49, go_sem, hA1]) rfl ⟨rfl, bnext (below1 _ _) (aft_below _ _)⟩

theorem int_pos (m : Nat) (h2 : m < 9223372036854775808) (w : World) :
    Calls Try.prog 49 #[.int .i64 (m : Int)] w fun e w' => e = .returned (el (four m 0 0 0)) ∧ Below w.heap.size w w' := by
  have hneg : ¬ ((m : Int)) < 0 := by omega
  have h3 : (m : Int) < 9223372036854775808 := by omega
  go_enter Try.func49, Try.ntmps49
  go_wp2_with fail
  exact bodyPost_ret (v := el (four m 0 0 0)) (by simp [results, Try.results49, go_sem, four]) rfl ⟨rfl, below1 _ _⟩

theorem aft_none (w : World) : aft w ⟨#[], w.drawn⟩ = w := by simp [aft]
theorem world_ext : ∀ a c : World, a.heap = c.heap → a.tape = c.tape → a.drawn = c.drawn → a.os = c.os → a.output = c.output → a = c := by
  rintro ⟨h1, h2, h3, h4, h5⟩ ⟨k1, k2, k3, k4, k5⟩ e1 e2 e3 e4 e5
  simp only at e1 e2 e3 e4 e5
  subst e1 e2 e3 e4 e5
  rfl
theorem setRow_twice {w : World} {b : Nat} {old : Array Value} {t : TypeId} {fr : Nat × Nat} (hrow : w.heap[b]? = some (.cells old t fr)) (c d : Array Value) : (w.setRow b c).setRow b d = w.setRow b d := by
  refine world_ext _ _ ?_ rfl rfl rfl rfl
  apply Array.ext_getElem?
  intro k
  by_cases h : k = b
  · subst h
    rw [setRow_heap _ _ _ _ _ _ (setRow_heap _ _ _ _ _ _ hrow), setRow_heap _ _ _ _ _ _ hrow]
  · rw [setRow_other _ _ _ _ h, setRow_other _ _ _ _ h, setRow_other _ _ _ _ h]

theorem results_agg {P : Program} {fn : Func} {p : Tmp} {ty : TypeId} {u : World} {b : Nat} {c : Array Value} {t0 : TypeId} {d : TypeDesc} (h : fn.results = #[.cell p ty]) (tmps : Array Value) (ht : tmps[p]?.getD undef = .pointer (some ⟨b, 0, none⟩))
    (hu : P.underlying ty = some d) (hd : (match d with | .struct _ | .array _ _ => true | _ => false) = true) (hi : (P.info? ty).map (·.size) = some c.size) (hrow : u.heap[b]? = some (.cells c t0 (0, 0))) : (results fn tmps).run P u = .ok (.agg c) u := by
  have hr := run_loadVar_row (P := P) u b t0 ty c (0, 0) _ hrow hu hd hi
  simp only [results, h]
  simp [ht, asAddr, hr]

theorem pow_step (x k : Nat) : x ^ (2 ^ k) % pp * (x ^ (2 ^ k) % pp) % pp = x ^ (2 ^ (k + 1)) % pp := by
  rw [← Nat.mul_mod, ← Nat.pow_add, Nat.pow_succ, Nat.mul_two]

set_option maxHeartbeats 2000000 in
/-- What grows a power: the power in block b is squared so many times, then multiplied. -/
theorem grow_any (t b : Nat) (ht : t < 1000) (x y : Nat → Nat) (hx : Ok x) (hy : Ok y) (t0 : TypeId) (w : World) (hrow : w.heap[b]? = some (.cells (cs x) t0 (0, 0))) :
    Calls Try.prog 87 #[.int .i64 t, el y, .pointer (some ⟨b, 0, none⟩)] w fun e w' => ∃ z : Nat → Nat, Ok z ∧ Hid (nm z = nm x ^ (2 ^ t) * nm y % pp) ∧ e = .returned (el z) ∧ Mod b w w' ∧ w'.heap[b]? = some (.cells (cs z) t0 (0, 0)) := by
  have hlt := row_lt hrow
  have ht2 : (t : Int) < 1000 := by omega
  go_enter Try.func87, Try.ntmps87
  go_wp2
  go_loopw [7] (fun i wr => ∃ (k : Nat) (z : Nat → Nat) (g : Gr), k ≤ t ∧ i = .int .i64 k ∧ Ok z ∧ Hid (nm z = nm x ^ (2 ^ k) % pp) ∧ wr = aft (((w.setRow b (cs z)).alloc (.cells (cs y) 29)).alloc (.cells #[.int .u64 0, .int .u64 0, .int .u64 0, .int .u64 0] 29)) g) (fun i _ => t - (intOf i).toNat)
  case atStart =>
    refine ⟨0, x, ⟨#[], w.drawn⟩, by omega, rfl, hx, hide1 ?_, ?_⟩
    · rw [Nat.pow_zero, Nat.pow_one, Nat.mod_eq_of_lt hx.2]
    · rw [setRow_self w b _ _ _ hrow]; exact (aft_none _).symm
  case round =>
    obtain ⟨k, z, g, hk, rfl, hz, ez, rfl⟩ := hrel
    have hr1 : (aft (((w.setRow b (cs z)).alloc (.cells (cs y) 29)).alloc (.cells #[.int .u64 0, .int .u64 0, .int .u64 0, .int .u64 0] 29)) g).heap[b]? = some (.cells (cs z) t0 (0, 0)) := row_aft (row_up (row_up (setRow_heap _ _ _ _ _ _ hrow)))
    by_cases hkt : k < t
    · have hkt2 : (k : Int) < (t : Int) := by omega
      obtain ⟨v, hv, ev, cv⟩ := times_el z z hz hz
      go_wp2_with (refine wpList_load_agg rfl 29 (.tmp 2) rfl b _ _ rfl Try.underlying29 rfl (by kernel_rfl) hr1 ?_)
      refine (cv _).mono ?_
      rintro e w1 ⟨rfl, hb1⟩
      obtain ⟨g2, rfl⟩ := aft_of hb1
      clear hb1 cv
      rw [aft_aft]
      clear hr1
      generalize (Gr.mk (g.bl ++ g2.bl) g2.dr) = g3
      have hr2 : (aft (((w.setRow b (cs z)).alloc (.cells (cs y) 29)).alloc (.cells #[.int .u64 0, .int .u64 0, .int .u64 0, .int .u64 0] 29)) g3).heap[b]? = some (.cells (cs z) t0 (0, 0)) := row_aft (row_up (row_up (setRow_heap _ _ _ _ _ _ hrow)))
      have hs2 : Hid ((aft (((w.setRow b (cs z)).alloc (.cells (cs y) 29)).alloc (.cells #[.int .u64 0, .int .u64 0, .int .u64 0, .int .u64 0] 29)) g3).setRow b (cs v) = aft (((w.setRow b (cs v)).alloc (.cells (cs y) 29)).alloc (.cells #[.int .u64 0, .int .u64 0, .int .u64 0, .int .u64 0] 29)) g3) := hide1 (by
        rw [setRow_aft _ _ _ _ (by simp; omega), setRow_alloc _ _ _ _ (by simp; omega), setRow_alloc _ _ _ _ (by simp; omega), setRow_twice hrow])
      go_wp2_with (refine wpList_store_row rfl 29 (.tmp 2) (.tmp 11) rfl b (cs v) _ _ rfl rfl (by kernel_rfl) hr2 rfl (cs_one v) hs2.out ?_)
      go_roundw
      case rel => exact ⟨k + 1, v, g3, by omega, by go_num, hv, hide1 (by rw [ev.out, ez.out, pow_step]), rfl⟩
      case measure => simp [intOf]; omega
    · obtain rfl : k = t := by omega
      obtain ⟨v, hv, ev, cv⟩ := times_el z y hz hy
      have hr0 : (aft (((w.setRow b (cs z)).alloc (.cells (cs y) 29)).alloc (.cells #[.int .u64 0, .int .u64 0, .int .u64 0, .int .u64 0] 29)) g).heap[w.heap.size]? = some (.cells (cs y) 29 (0, 0)) := by
        have := row_aft (g := g) (row2_0 (w.setRow b (cs z)) (.cells (cs y) 29) (.cells #[.int .u64 0, .int .u64 0, .int .u64 0, .int .u64 0] 29))
        rwa [size_setRow] at this
      go_wp2_with (first
        | (refine wpList_load_agg rfl 29 (.tmp 2) rfl b _ _ rfl Try.underlying29 rfl (by kernel_rfl) hr1 ?_)
        | (refine wpList_load_agg rfl 29 (.tmp 4) rfl w.heap.size _ _ rfl Try.underlying29 rfl (by kernel_rfl) hr0 ?_))
      refine (cv _).mono ?_
      rintro e w1 ⟨rfl, hb1⟩
      obtain ⟨g2, rfl⟩ := aft_of hb1
      clear hb1 cv
      rw [aft_aft]
      clear hr1 hr0
      generalize (Gr.mk (g.bl ++ g2.bl) g2.dr) = g3
      have hr2 : (aft (((w.setRow b (cs z)).alloc (.cells (cs y) 29)).alloc (.cells #[.int .u64 0, .int .u64 0, .int .u64 0, .int .u64 0] 29)) g3).heap[b]? = some (.cells (cs z) t0 (0, 0)) := row_aft (row_up (row_up (setRow_heap _ _ _ _ _ _ hrow)))
      have hs2 : Hid ((aft (((w.setRow b (cs z)).alloc (.cells (cs y) 29)).alloc (.cells #[.int .u64 0, .int .u64 0, .int .u64 0, .int .u64 0] 29)) g3).setRow b (cs v) = aft (((w.setRow b (cs v)).alloc (.cells (cs y) 29)).alloc (.cells #[.int .u64 0, .int .u64 0, .int .u64 0, .int .u64 0] 29)) g3) := hide1 (by
        rw [setRow_aft _ _ _ _ (by simp; omega), setRow_alloc _ _ _ _ (by simp; omega), setRow_alloc _ _ _ _ (by simp; omega), setRow_twice hrow])
      have hr3 : (aft (((w.setRow b (cs v)).alloc (.cells (cs y) 29)).alloc (.cells #[.int .u64 0, .int .u64 0, .int .u64 0, .int .u64 0] 29)) g3).heap[b]? = some (.cells (cs v) t0 (0, 0)) := row_aft (row_up (row_up (setRow_heap _ _ _ _ _ _ hrow)))
      have hr4 : (aft (((w.setRow b (cs v)).alloc (.cells (cs y) 29)).alloc (.cells #[.int .u64 0, .int .u64 0, .int .u64 0, .int .u64 0] 29)) g3).heap[w.heap.size + 1]? = some (.cells #[.int .u64 0, .int .u64 0, .int .u64 0, .int .u64 0] 29 (0, 0)) := by
        have := row_aft (g := g3) (row2_1 (w.setRow b (cs v)) (.cells (cs y) 29) (.cells #[.int .u64 0, .int .u64 0, .int .u64 0, .int .u64 0] 29))
        rwa [size_setRow] at this
      go_wp2_with (first
        | (refine wpList_store_row rfl 29 (.tmp 2) (.tmp 15) rfl b (cs v) _ _ rfl rfl (by kernel_rfl) hr2 rfl (cs_one v) hs2.out ?_)
        | (refine wpList_load_agg rfl 29 (.tmp 2) rfl b _ _ rfl Try.underlying29 rfl (by kernel_rfl) hr3 ?_)
        | (refine wpList_store_row rfl 29 (.tmp 5) (.tmp 16) rfl (w.heap.size + 1) (cs v) _ _ rfl rfl (by kernel_rfl) hr4 rfl (cs_one v) rfl ?_))
      have hm : Mod b w ((aft (((w.setRow b (cs v)).alloc (.cells (cs y) 29)).alloc (.cells #[.int .u64 0, .int .u64 0, .int .u64 0, .int .u64 0] 29)) g3).setRow (w.heap.size + 1) (cs v)) := by
        have h1 := (Mod.setRow b w (cs v)).trans (Mod.of_below (b := b) (bnext (below2 (w.setRow b (cs v)) (.cells (cs y) 29) (.cells #[.int .u64 0, .int .u64 0, .int .u64 0, .int .u64 0] 29)) (aft_below _ g3)))
        refine ⟨h1.os, h1.tape, h1.output, by simpa using h1.size, fun p hp hpb => ?_⟩
        rw [setRow_other _ _ _ _ (by omega)]
        exact h1.row p hp hpb
      exact bodyPost_ret (v := el v) (results_agg rfl _ rfl Try.underlying29 rfl (by kernel_rfl) (setRow_heap _ _ _ _ _ _ hr4)) rfl ⟨v, hv, hide1 (by rw [ev.out, ez.out, Nat.mod_mul_mod]), rfl, hm, by rw [setRow_other _ _ _ _ (by omega)]; exact hr3⟩
end Go.Proofs.Ytpogmflgmpifoaa

namespace Go.Proofs.Ytpogmflgmpifoaa
open Go.RowKit

theorem make_fn (fn : Fn) (first cap : Array Value) (w : World) : (Instr.makeFunc fn first cap).run Try.prog w = .ok (.func fn first cap) w := rfl

theorem first_any (x : Nat → Nat) (w : World) :
    Calls Try.prog 86 #[el x] w fun e w' => ∃ b : Nat, e = .returned (.func (.func 87) #[] #[.pointer (some ⟨b, 0, none⟩)]) ∧ Hid (b = w.heap.size + 1) ∧ Below w.heap.size w w' ∧ w'.heap[b]? = some (.cells (cs x) 29 (0, 0)) := by
  have hmf := make_fn
  go_enter Try.func86, Try.ntmps86
  go_wp2
  go_ret
  exact ⟨_, rfl, hide1 rfl, below2 _ _ _, row2_1 _ _ _⟩

theorem pw_step {X a y e f t z : Nat} (ha : a = X ^ e % pp) (hy : y = X ^ f % pp) (hz : z = a ^ (2 ^ t) * y % pp) : z = X ^ (e * 2 ^ t + f) % pp := by
  rw [hz, ha, hy, Nat.pow_add, Nat.pow_mul, Nat.mul_mod_mod, Nat.mul_mod, ← Nat.pow_mod, ← Nat.mul_mod]

theorem below_mod {w u v : World} {b : Nat} (h : Below w.heap.size w u) (m : Mod b u v) (hb : w.heap.size ≤ b) : Below w.heap.size w v :=
  ((Mod.of_below (b := b) h).trans m).below hb
theorem below_up {w u : World} (h : Below w.heap.size w u) (o : Obj) : Below w.heap.size w (u.alloc o) := bnext h (below1 u o)

set_option maxHeartbeats 4000000 in
theorem ones_any (x : Nat → Nat) (hx : Ok x) (w : World) :
    Calls Try.prog 83 #[el x] w fun e w' => ∃ (z : Nat → Nat) (E b : Nat), Ok z ∧ Hid (E = 1809251394333065553493296640760748560207343510400633813116524750123642650623) ∧ Hid (nm z = nm x ^ E % pp) ∧ e = .returned (.func (.func 87) #[] #[.pointer (some ⟨b, 0, none⟩)]) ∧ w.heap.size ≤ b ∧ Below w.heap.size w w' ∧ w'.heap[b]? = some (.cells (cs z) 29 (0, 0)) := by
  obtain ⟨X, HX⟩ : ∃ X, Hid (nm x = X) := ⟨_, hide1 rfl⟩
  rw [HX.out]
  obtain ⟨ea, hea⟩ : ∃ ea, Hid (ea = 1) := ⟨_, hide1 rfl⟩
  have qa : Hid (nm x = X ^ ea % pp) := hide1 (by rw [hea.out, Nat.pow_one, ← HX.out, Nat.mod_eq_of_lt hx.2])
  go_enter Try.func83, Try.ntmps83
  have ra := row1_0 w (.cells (cs x) 29)
  go_wp2_with fail
  refine (first_any x _).mono ?_
  rintro e u0 ⟨b, rfl, hb, hb0, rb0⟩
  replace ra := row_below ra hb0
  have hw0 : Below w.heap.size w u0 := bnext (below1 _ _) hb0
  clear hb0
  have na : w.heap.size ≠ b := by have := hb.out; simp at this; omega
  have hbw : w.heap.size ≤ b := by have := hb.out; simp at this; omega
  clear hb
  go_wp2_with (refine wpList_load_agg rfl 29 (.tmp 1) rfl w.heap.size _ _ rfl Try.underlying29 rfl (by kernel_rfl) ra ?_)
  refine (grow_any 1 b (by omega) x x hx hx _ _ rb0).mono ?_
  rintro e u1 ⟨z1, ok1, s1, rfl, m1, rb1⟩
  replace ra := row_mod ra m1 na
  have hw1 := below_mod hw0 m1 hbw
  obtain ⟨e1, he1⟩ : ∃ e1, Hid (e1 = ea * 2 ^ 1 + ea) := ⟨_, hide1 rfl⟩
  have q1 : Hid (nm z1 = X ^ e1 % pp) := hide1 (by rw [he1.out]; exact pw_step qa.out qa.out s1.out)
  clear m1 s1 rb0 hw0
  have ntwo : u1.heap.size ≠ b := by have := row_lt rb1; omega
  replace ra := row_up (o := .cells (cs z1) 29) ra
  replace rb1 := row_up (o := .cells (cs z1) 29) rb1
  have rtwo := row_new u1 (.cells (cs z1) 29)
  replace hw1 := below_up hw1 (.cells (cs z1) 29)
  go_wp2_with (refine wpList_load_agg rfl 29 (.tmp 4) rfl u1.heap.size _ _ rfl Try.underlying29 rfl (by kernel_rfl) rtwo ?_)
  refine (grow_any 2 b (by omega) z1 z1 ok1 ok1 _ _ rb1).mono ?_
  rintro e u2 ⟨z2, ok2, s2, rfl, m2, rb2⟩
  replace ra := row_mod ra m2 na
  replace rtwo := row_mod rtwo m2 ntwo
  have hw2 := below_mod hw1 m2 hbw
  obtain ⟨e2, he2⟩ : ∃ e2, Hid (e2 = e1 * 2 ^ 2 + e1) := ⟨_, hide1 rfl⟩
  have q2 : Hid (nm z2 = X ^ e2 % pp) := hide1 (by rw [he2.out]; exact pw_step q1.out q1.out s2.out)
  clear m2 s2 rb1 hw1
  go_wp2_with (refine wpList_load_agg rfl 29 (.tmp 1) rfl w.heap.size _ _ rfl Try.underlying29 rfl (by kernel_rfl) ra ?_)
  refine (grow_any 1 b (by omega) z2 x ok2 hx _ _ rb2).mono ?_
  rintro e u3 ⟨z3, ok3, s3, rfl, m3, rb3⟩
  replace ra := row_mod ra m3 na
  replace rtwo := row_mod rtwo m3 ntwo
  have hw3 := below_mod hw2 m3 hbw
  obtain ⟨e3, he3⟩ : ∃ e3, Hid (e3 = e2 * 2 ^ 1 + ea) := ⟨_, hide1 rfl⟩
  have q3 : Hid (nm z3 = X ^ e3 % pp) := hide1 (by rw [he3.out]; exact pw_step q2.out qa.out s3.out)
  clear m3 s3 rb2 hw2
  have nfive : u3.heap.size ≠ b := by have := row_lt rb3; omega
  replace ra := row_up (o := .cells (cs z3) 29) ra
  replace rtwo := row_up (o := .cells (cs z3) 29) rtwo
  replace rb3 := row_up (o := .cells (cs z3) 29) rb3
  have rfive := row_new u3 (.cells (cs z3) 29)
  replace hw3 := below_up hw3 (.cells (cs z3) 29)
  go_wp2_with (refine wpList_load_agg rfl 29 (.tmp 5) rfl u3.heap.size _ _ rfl Try.underlying29 rfl (by kernel_rfl) rfive ?_)
  refine (grow_any 5 b (by omega) z3 z3 ok3 ok3 _ _ rb3).mono ?_
  rintro e u4 ⟨z4, ok4, s4, rfl, m4, rb4⟩
  replace ra := row_mod ra m4 na
  replace rtwo := row_mod rtwo m4 ntwo
  replace rfive := row_mod rfive m4 nfive
  have hw4 := below_mod hw3 m4 hbw
  obtain ⟨e4, he4⟩ : ∃ e4, Hid (e4 = e3 * 2 ^ 5 + e3) := ⟨_, hide1 rfl⟩
  have q4 : Hid (nm z4 = X ^ e4 % pp) := hide1 (by rw [he4.out]; exact pw_step q3.out q3.out s4.out)
  clear m4 s4 rb3 hw3
  have nten : u4.heap.size ≠ b := by have := row_lt rb4; omega
  replace ra := row_up (o := .cells (cs z4) 29) ra
  replace rtwo := row_up (o := .cells (cs z4) 29) rtwo
  replace rfive := row_up (o := .cells (cs z4) 29) rfive
  replace rb4 := row_up (o := .cells (cs z4) 29) rb4
  have rten := row_new u4 (.cells (cs z4) 29)
  replace hw4 := below_up hw4 (.cells (cs z4) 29)
  go_wp2_with (refine wpList_load_agg rfl 29 (.tmp 6) rfl u4.heap.size _ _ rfl Try.underlying29 rfl (by kernel_rfl) rten ?_)
  refine (grow_any 10 b (by omega) z4 z4 ok4 ok4 _ _ rb4).mono ?_
  rintro e u5 ⟨z5, ok5, s5, rfl, m5, rb5⟩
  replace ra := row_mod ra m5 na
  replace rtwo := row_mod rtwo m5 ntwo
  replace rfive := row_mod rfive m5 nfive
  replace rten := row_mod rten m5 nten
  have hw5 := below_mod hw4 m5 hbw
  obtain ⟨e5, he5⟩ : ∃ e5, Hid (e5 = e4 * 2 ^ 10 + e4) := ⟨_, hide1 rfl⟩
  have q5 : Hid (nm z5 = X ^ e5 % pp) := hide1 (by rw [he5.out]; exact pw_step q4.out q4.out s5.out)
  clear m5 s5 rb4 hw4
  have ntwenty : u5.heap.size ≠ b := by have := row_lt rb5; omega
  replace ra := row_up (o := .cells (cs z5) 29) ra
  replace rtwo := row_up (o := .cells (cs z5) 29) rtwo
  replace rfive := row_up (o := .cells (cs z5) 29) rfive
  replace rten := row_up (o := .cells (cs z5) 29) rten
  replace rb5 := row_up (o := .cells (cs z5) 29) rb5
  have rtwenty := row_new u5 (.cells (cs z5) 29)
  replace hw5 := below_up hw5 (.cells (cs z5) 29)
  go_wp2_with (refine wpList_load_agg rfl 29 (.tmp 7) rfl u5.heap.size _ _ rfl Try.underlying29 rfl (by kernel_rfl) rtwenty ?_)
  refine (grow_any 20 b (by omega) z5 z5 ok5 ok5 _ _ rb5).mono ?_
  rintro e u6 ⟨z6, ok6, s6, rfl, m6, rb6⟩
  replace ra := row_mod ra m6 na
  replace rtwo := row_mod rtwo m6 ntwo
  replace rfive := row_mod rfive m6 nfive
  replace rten := row_mod rten m6 nten
  replace rtwenty := row_mod rtwenty m6 ntwenty
  have hw6 := below_mod hw5 m6 hbw
  obtain ⟨e6, he6⟩ : ∃ e6, Hid (e6 = e5 * 2 ^ 20 + e5) := ⟨_, hide1 rfl⟩
  have q6 : Hid (nm z6 = X ^ e6 % pp) := hide1 (by rw [he6.out]; exact pw_step q5.out q5.out s6.out)
  clear m6 s6 rb5 hw5
  go_wp2_with (refine wpList_load_agg rfl 29 (.tmp 6) rfl u4.heap.size _ _ rfl Try.underlying29 rfl (by kernel_rfl) rten ?_)
  refine (grow_any 10 b (by omega) z6 z4 ok6 ok4 _ _ rb6).mono ?_
  rintro e u7 ⟨z7, ok7, s7, rfl, m7, rb7⟩
  replace ra := row_mod ra m7 na
  replace rtwo := row_mod rtwo m7 ntwo
  replace rfive := row_mod rfive m7 nfive
  replace rten := row_mod rten m7 nten
  replace rtwenty := row_mod rtwenty m7 ntwenty
  have hw7 := below_mod hw6 m7 hbw
  obtain ⟨e7, he7⟩ : ∃ e7, Hid (e7 = e6 * 2 ^ 10 + e4) := ⟨_, hide1 rfl⟩
  have q7 : Hid (nm z7 = X ^ e7 % pp) := hide1 (by rw [he7.out]; exact pw_step q6.out q4.out s7.out)
  clear m7 s7 rb6 hw6
  have nfifty : u7.heap.size ≠ b := by have := row_lt rb7; omega
  replace ra := row_up (o := .cells (cs z7) 29) ra
  replace rtwo := row_up (o := .cells (cs z7) 29) rtwo
  replace rfive := row_up (o := .cells (cs z7) 29) rfive
  replace rten := row_up (o := .cells (cs z7) 29) rten
  replace rtwenty := row_up (o := .cells (cs z7) 29) rtwenty
  replace rb7 := row_up (o := .cells (cs z7) 29) rb7
  have rfifty := row_new u7 (.cells (cs z7) 29)
  replace hw7 := below_up hw7 (.cells (cs z7) 29)
  go_wp2_with (refine wpList_load_agg rfl 29 (.tmp 8) rfl u7.heap.size _ _ rfl Try.underlying29 rfl (by kernel_rfl) rfifty ?_)
  refine (grow_any 50 b (by omega) z7 z7 ok7 ok7 _ _ rb7).mono ?_
  rintro e u8 ⟨z8, ok8, s8, rfl, m8, rb8⟩
  replace ra := row_mod ra m8 na
  replace rtwo := row_mod rtwo m8 ntwo
  replace rfive := row_mod rfive m8 nfive
  replace rten := row_mod rten m8 nten
  replace rtwenty := row_mod rtwenty m8 ntwenty
  replace rfifty := row_mod rfifty m8 nfifty
  have hw8 := below_mod hw7 m8 hbw
  obtain ⟨e8, he8⟩ : ∃ e8, Hid (e8 = e7 * 2 ^ 50 + e7) := ⟨_, hide1 rfl⟩
  have q8 : Hid (nm z8 = X ^ e8 % pp) := hide1 (by rw [he8.out]; exact pw_step q7.out q7.out s8.out)
  clear m8 s8 rb7 hw7
  have nhundred : u8.heap.size ≠ b := by have := row_lt rb8; omega
  replace ra := row_up (o := .cells (cs z8) 29) ra
  replace rtwo := row_up (o := .cells (cs z8) 29) rtwo
  replace rfive := row_up (o := .cells (cs z8) 29) rfive
  replace rten := row_up (o := .cells (cs z8) 29) rten
  replace rtwenty := row_up (o := .cells (cs z8) 29) rtwenty
  replace rfifty := row_up (o := .cells (cs z8) 29) rfifty
  replace rb8 := row_up (o := .cells (cs z8) 29) rb8
  have rhundred := row_new u8 (.cells (cs z8) 29)
  replace hw8 := below_up hw8 (.cells (cs z8) 29)
  go_wp2_with (refine wpList_load_agg rfl 29 (.tmp 9) rfl u8.heap.size _ _ rfl Try.underlying29 rfl (by kernel_rfl) rhundred ?_)
  refine (grow_any 100 b (by omega) z8 z8 ok8 ok8 _ _ rb8).mono ?_
  rintro e u9 ⟨z9, ok9, s9, rfl, m9, rb9⟩
  replace ra := row_mod ra m9 na
  replace rtwo := row_mod rtwo m9 ntwo
  replace rfive := row_mod rfive m9 nfive
  replace rten := row_mod rten m9 nten
  replace rtwenty := row_mod rtwenty m9 ntwenty
  replace rfifty := row_mod rfifty m9 nfifty
  replace rhundred := row_mod rhundred m9 nhundred
  have hw9 := below_mod hw8 m9 hbw
  obtain ⟨e9, he9⟩ : ∃ e9, Hid (e9 = e8 * 2 ^ 100 + e8) := ⟨_, hide1 rfl⟩
  have q9 : Hid (nm z9 = X ^ e9 % pp) := hide1 (by rw [he9.out]; exact pw_step q8.out q8.out s9.out)
  clear m9 s9 rb8 hw8
  go_wp2_with (refine wpList_load_agg rfl 29 (.tmp 8) rfl u7.heap.size _ _ rfl Try.underlying29 rfl (by kernel_rfl) rfifty ?_)
  refine (grow_any 50 b (by omega) z9 z7 ok9 ok7 _ _ rb9).mono ?_
  rintro e u10 ⟨z10, ok10, s10, rfl, m10, rb10⟩
  replace ra := row_mod ra m10 na
  replace rtwo := row_mod rtwo m10 ntwo
  replace rfive := row_mod rfive m10 nfive
  replace rten := row_mod rten m10 nten
  replace rtwenty := row_mod rtwenty m10 ntwenty
  replace rfifty := row_mod rfifty m10 nfifty
  replace rhundred := row_mod rhundred m10 nhundred
  have hw10 := below_mod hw9 m10 hbw
  obtain ⟨e10, he10⟩ : ∃ e10, Hid (e10 = e9 * 2 ^ 50 + e7) := ⟨_, hide1 rfl⟩
  have q10 : Hid (nm z10 = X ^ e10 % pp) := hide1 (by rw [he10.out]; exact pw_step q9.out q7.out s10.out)
  clear m10 s10 rb9 hw9
  go_wp2_with fail
  go_ret
  refine ⟨z10, e10, b, ok10, hide1 ?_, q10, rfl, hbw, hw10, rb10⟩
  have h0 := hea.out
  have h1 := he1.out
  have h2 := he2.out
  have h3 := he3.out
  have h4 := he4.out
  have h5 := he5.out
  have h6 := he6.out
  have h7 := he7.out
  have h8 := he8.out
  have h9 := he9.out
  have h10 := he10.out
  clear q1 ok1 q2 ok2 q3 ok3 q4 ok4 q5 ok5 q6 ok6 q7 ok7 q8 ok8 q9 ok9 q10 ok10 ra rtwo rfive rten rtwenty rfifty rhundred hx qa
  simp only [Nat.reducePow] at h1 h2 h3 h4 h5 h6 h7 h8 h9 h10
  omega
end Go.Proofs.Ytpogmflgmpifoaa

namespace Go.Proofs.Ytpogmflgmpifoaa
open Go.RowKit

theorem cells_of_row {u : World} {p : Nat} {x : Nat → Nat} {t : TypeId} (h : u.heap[p]? = some (.cells (cs x) t (0, 0))) :
    u.cell? ⟨p, 0, none⟩ = some (.int .u64 (x 0)) ∧ u.cell? ⟨p, 1, none⟩ = some (.int .u64 (x 1)) ∧ u.cell? ⟨p, 2, none⟩ = some (.int .u64 (x 2)) ∧ u.cell? ⟨p, 3, none⟩ = some (.int .u64 (x 3)) := by
  refine ⟨?_, ?_, ?_, ?_⟩ <;> rw [cell_of_row _ _ _ _ _ _ h] <;> rfl

theorem pw_mul {X a y e f z : Nat} (ha : a = X ^ e % pp) (hy : y = X ^ f % pp) (hz : z = a * y % pp) : z = X ^ (e + f) % pp := by
  rw [hz, ha, hy, Nat.pow_add, ← Nat.mul_mod]

theorem inv_pow {X E z s f g h l y : Nat} (hE : E = 1809251394333065553493296640760748560207343510400633813116524750123642650623) (hz : z = X ^ E % pp) (hs : s = X * X % pp) (hf : f = s * s % pp) (hg : g = f * f % pp) (hh : h = g * s % pp) (hl : l = h * X % pp)
    (hy : y = z ^ (2 ^ 5) * l % pp) (hX : X < pp) : ∃ e : Nat, e = 57896044618658097711785492504343953926634992332820282019728792003956564819947 ∧ y = X ^ e % pp := by
  have h1 : X = X ^ 1 % pp := by rw [Nat.pow_one, Nat.mod_eq_of_lt hX]
  have h2 := pw_mul h1 h1 hs
  have h4 := pw_mul h2 h2 hf
  have h8 := pw_mul h4 h4 hg
  have h10 := pw_mul h8 h2 hh
  have h11 := pw_mul h10 h1 hl
  have h := pw_step hz h11 hy
  exact ⟨_, by rw [hE], h⟩

theorem times_fn : ∃ tm : (Nat → Nat) → (Nat → Nat) → (Nat → Nat), ∀ x y, Ok x → Ok y → Ok (tm x y) ∧ Hid (nm (tm x y) = nm x * nm y % pp) ∧
    ∀ w, Calls Try.prog 58 #[el x, el y] w fun e w' => e = .returned (el (tm x y)) ∧ Below w.heap.size w w' := by
  have h : ∀ x, ∃ f : (Nat → Nat) → (Nat → Nat), ∀ y, Ok x → Ok y → Ok (f y) ∧ Hid (nm (f y) = nm x * nm y % pp) ∧ ∀ w, Calls Try.prog 58 #[el x, el y] w fun e w' => e = .returned (el (f y)) ∧ Below w.heap.size w w' := by
    intro x
    refine Classical.axiomOfChoice (r := fun y z => Ok x → Ok y → Ok z ∧ Hid (nm z = nm x * nm y % pp) ∧ ∀ w, Calls Try.prog 58 #[el x, el y] w fun e w' => e = .returned (el z) ∧ Below w.heap.size w w') (fun y => ?_)
    by_cases hx : Ok x
    · by_cases hy : Ok y
      · obtain ⟨z, h1, h2, h3⟩ := times_el x y hx hy
        exact ⟨z, fun _ _ => ⟨h1, h2, h3⟩⟩
      · exact ⟨x, fun _ h => absurd h hy⟩
    · exact ⟨x, fun h => absurd h hx⟩
  exact Classical.axiomOfChoice (r := fun x (f : (Nat → Nat) → (Nat → Nat)) => ∀ y, Ok x → Ok y → Ok (f y) ∧ Hid (nm (f y) = nm x * nm y % pp) ∧ ∀ w, Calls Try.prog 58 #[el x, el y] w fun e w' => e = .returned (el (f y)) ∧ Below w.heap.size w w') h

set_option maxRecDepth 100000 in
set_option maxHeartbeats 4000000 in
theorem inverse_any (x : Nat → Nat) (hx : Ok x) (w : World) :
    Calls Try.prog 72 #[el x] w fun e w' => ∃ (z : Nat → Nat) (k : Nat), Ok z ∧ Hid (k = 57896044618658097711785492504343953926634992332820282019728792003956564819947) ∧ Hid (nm z = nm x ^ k % pp) ∧ e = .returned (el z) ∧ Below w.heap.size w w' := by
  obtain ⟨s, hs, es, c1⟩ := times_el x x hx hx
  obtain ⟨f, hf, ef, c2⟩ := times_el s s hs hs
  obtain ⟨tm, htm⟩ := times_fn
  obtain ⟨hg, eg, _⟩ := htm f f hf hf
  obtain ⟨hh, eh, _⟩ := htm (tm f f) s hg hs
  obtain ⟨hl, e11, _⟩ := htm (tm (tm f f) s) x hh hx
  have ctm : ∀ x y, Ok x → Ok y → ∀ w, Calls Try.prog 58 #[el x, el y] w fun e w' => e = .returned (el (tm x y)) ∧ Below w.heap.size w w' := fun x y hx hy => (htm x y hx hy).2.2
  clear htm
  go_enter Try.func72, Try.ntmps72
  have ra := row2_0 w (.cells (cs x) 29) (.cells #[.int .u64 0, .int .u64 0, .int .u64 0, .int .u64 0] 29)
  have rr := row2_1 w (.cells (cs x) 29) (.cells #[.int .u64 0, .int .u64 0, .int .u64 0, .int .u64 0] 29)
  go_wp2_with fail
  refine (c1 _).mono ?_
  rintro e u1 ⟨rfl, hb1⟩
  replace ra := row_up (o := .cells (cs s) 29) (row_below ra hb1)
  replace rr := row_up (o := .cells (cs s) 29) (row_below rr hb1)
  have hw := below_up (bnext (below2 _ _ _) hb1) (.cells (cs s) 29)
  have rs := row_new u1 (.cells (cs s) 29)
  clear hb1 c1
  go_wp2_with (refine wpList_load_agg rfl 29 (.tmp 3) rfl u1.heap.size _ _ rfl Try.underlying29 rfl (by kernel_rfl) rs ?_)
  refine (c2 _).mono ?_
  rintro e u2 ⟨rfl, hb2⟩
  replace ra := row_up (o := .cells (cs f) 29) (row_below ra hb2)
  replace rr := row_up (o := .cells (cs f) 29) (row_below rr hb2)
  replace rs := row_up (o := .cells (cs f) 29) (row_below rs hb2)
  replace hw := below_up (bnext hw hb2) (.cells (cs f) 29)
  have rf := row_new u2 (.cells (cs f) 29)
  clear hb2 c2
  go_wp2_with fail
  generalize (u2.alloc (.cells (cs f) 29)) = U at *
  generalize u1.heap.size = ps at *
  generalize u2.heap.size = pf at *
  refine wp_region_inv (by kernel_rfl) (acyc_of (by kernel_rfl)) (fun D a wr => ∃ v5 v13 v14 v15 v16 v17 v18 v19 : Value, a = { tmps := #[el x, .pointer (some ⟨w.heap.size, 0, none⟩), .pointer (some ⟨w.heap.size + 1, 0, none⟩), .pointer (some ⟨ps, 0, none⟩), .pointer (some ⟨pf, 0, none⟩), v5, undef, el x, el x, el s, el s, el s, el f, v13, v14, v15, v16, v17, v18, v19, undef, undef, undef, undef, undef], defers := [] } ∧ (D 0 = true → v13 = el f) ∧ (D 1 = true → v14 = el f) ∧ (D 2 = true → v15 = el (tm f f)) ∧ (D 3 = true → v16 = el s) ∧ (D 4 = true → v17 = el (tm (tm f f) s)) ∧ (D 5 = true → v18 = el x) ∧ (D 6 = true → v19 = el (tm (tm (tm f f) s) x)) ∧ (D 8 = true → D 7 = true) ∧ Below U.heap.size U wr ∧ (D 7 = true → ∃ p : Nat, v5 = .pointer (some ⟨p, 0, none⟩) ∧ U.heap.size ≤ p ∧ ∃ c : Array Value, wr.heap[p]? = some (.cells c 29 (0, 0)) ∧ c.size = 4 ∧ (D 8 = true → c = (cs (tm (tm (tm f f) s) x))))) ?_ ?_ ?_
  · exact ⟨undef, undef, undef, undef, undef, undef, undef, undef, rfl, by simp, by simp, by simp, by simp, by simp, by simp, by simp, by simp, (Below.refl _ _).drew, by simp⟩
  · intro D a wr hinv i o ho hD hdep K hK
    obtain ⟨v5, v13, v14, v15, v16, v17, v18, v19, rfl, h0, h1, h2, h3, h4, h5, h6, h8, hb, h7⟩ := hinv
    have hi : i < 9 := (Array.getElem?_eq_some_iff.1 ho).1
    obtain rfl | rfl | rfl | rfl | rfl | rfl | rfl | rfl | rfl : i = 0 ∨ i = 1 ∨ i = 2 ∨ i = 3 ∨ i = 4 ∨ i = 5 ∨ i = 6 ∨ i = 7 ∨ i = 8 := by omega
    · cases ho
      refine ⟨rfl, oper_load 29 (.tmp 4) rfl pf (cs f) _ rfl Try.underlying29 rfl (by kernel_rfl) (row_below rf hb) (hK _ _ ⟨v5, el f, v14, v15, v16, v17, v18, v19, rfl, fun _ => rfl, fun h => h1 (by simpa using h), fun h => h2 (by simpa using h), fun h => h3 (by simpa using h), fun h => h4 (by simpa using h), fun h => h5 (by simpa using h), fun h => h6 (by simpa using h), fun h => by have := h8 (by simpa using h); simpa using this, hb, fun h => by
        obtain ⟨p, e1, e2, c, e3, e4, e5⟩ := h7 (by simpa using h)
        exact ⟨p, e1, e2, c, e3, e4, fun h => e5 (by simpa using h)⟩⟩)⟩
    · cases ho
      refine ⟨rfl, oper_load 29 (.tmp 4) rfl pf (cs f) _ rfl Try.underlying29 rfl (by kernel_rfl) (row_below rf hb) (hK _ _ ⟨v5, v13, el f, v15, v16, v17, v18, v19, rfl, fun h => h0 (by simpa using h), fun _ => rfl, fun h => h2 (by simpa using h), fun h => h3 (by simpa using h), fun h => h4 (by simpa using h), fun h => h5 (by simpa using h), fun h => h6 (by simpa using h), fun h => by have := h8 (by simpa using h); simpa using this, hb, fun h => by
        obtain ⟨p, e1, e2, c, e3, e4, e5⟩ := h7 (by simpa using h)
        exact ⟨p, e1, e2, c, e3, e4, fun h => e5 (by simpa using h)⟩⟩)⟩
    · cases ho
      have d0 := h0 (hdep { on := 0, ground := .data } (by simp) rfl)
      subst d0
      have d1 := h1 (hdep { on := 1, ground := .data } (by simp) rfl)
      subst d1
      refine ⟨rfl, oper_call 58 #[.tmp 13, .tmp 14] _ rfl #[el f, el f] (by simp only [List.map_toArray, List.map_cons, List.map_nil]; rfl) (fun w => by kernel_rfl) (ctm f f hf hf _) (fun w' hb' => hK _ _ ⟨v5, (el f), (el f), el (tm f f), v16, v17, v18, v19, rfl, fun _ => rfl, fun _ => rfl, fun _ => rfl, fun h => h3 (by simpa using h), fun h => h4 (by simpa using h), fun h => h5 (by simpa using h), fun h => h6 (by simpa using h), fun h => by have := h8 (by simpa using h); simpa using this, bnext hb hb', fun h => by
        obtain ⟨p, e1, e2, c, e3, e4, e5⟩ := h7 (by simpa using h)
        exact ⟨p, e1, e2, c, row_below e3 hb', e4, fun h => e5 (by simpa using h)⟩⟩)⟩
    · cases ho
      refine ⟨rfl, oper_load 29 (.tmp 3) rfl ps (cs s) _ rfl Try.underlying29 rfl (by kernel_rfl) (row_below rs hb) (hK _ _ ⟨v5, v13, v14, v15, el s, v17, v18, v19, rfl, fun h => h0 (by simpa using h), fun h => h1 (by simpa using h), fun h => h2 (by simpa using h), fun _ => rfl, fun h => h4 (by simpa using h), fun h => h5 (by simpa using h), fun h => h6 (by simpa using h), fun h => by have := h8 (by simpa using h); simpa using this, hb, fun h => by
        obtain ⟨p, e1, e2, c, e3, e4, e5⟩ := h7 (by simpa using h)
        exact ⟨p, e1, e2, c, e3, e4, fun h => e5 (by simpa using h)⟩⟩)⟩
    · cases ho
      have d2 := h2 (hdep { on := 2, ground := .data } (by simp) rfl)
      subst d2
      have d3 := h3 (hdep { on := 3, ground := .data } (by simp) rfl)
      subst d3
      refine ⟨rfl, oper_call 58 #[.tmp 15, .tmp 16] _ rfl #[el (tm f f), el s] (by simp only [List.map_toArray, List.map_cons, List.map_nil]; rfl) (fun w => by kernel_rfl) (ctm (tm f f) s hg hs _) (fun w' hb' => hK _ _ ⟨v5, v13, v14, (el (tm f f)), (el s), el (tm (tm f f) s), v18, v19, rfl, fun h => h0 (by simpa using h), fun h => h1 (by simpa using h), fun _ => rfl, fun _ => rfl, fun _ => rfl, fun h => h5 (by simpa using h), fun h => h6 (by simpa using h), fun h => by have := h8 (by simpa using h); simpa using this, bnext hb hb', fun h => by
        obtain ⟨p, e1, e2, c, e3, e4, e5⟩ := h7 (by simpa using h)
        exact ⟨p, e1, e2, c, row_below e3 hb', e4, fun h => e5 (by simpa using h)⟩⟩)⟩
    · cases ho
      refine ⟨rfl, oper_load 29 (.tmp 1) rfl w.heap.size (cs x) _ rfl Try.underlying29 rfl (by kernel_rfl) (row_below ra hb) (hK _ _ ⟨v5, v13, v14, v15, v16, v17, el x, v19, rfl, fun h => h0 (by simpa using h), fun h => h1 (by simpa using h), fun h => h2 (by simpa using h), fun h => h3 (by simpa using h), fun h => h4 (by simpa using h), fun _ => rfl, fun h => h6 (by simpa using h), fun h => by have := h8 (by simpa using h); simpa using this, hb, fun h => by
        obtain ⟨p, e1, e2, c, e3, e4, e5⟩ := h7 (by simpa using h)
        exact ⟨p, e1, e2, c, e3, e4, fun h => e5 (by simpa using h)⟩⟩)⟩
    · cases ho
      have d4 := h4 (hdep { on := 4, ground := .data } (by simp) rfl)
      subst d4
      have d5 := h5 (hdep { on := 5, ground := .data } (by simp) rfl)
      subst d5
      refine ⟨rfl, oper_call 58 #[.tmp 17, .tmp 18] _ rfl #[el (tm (tm f f) s), el x] (by simp only [List.map_toArray, List.map_cons, List.map_nil]; rfl) (fun w => by kernel_rfl) (ctm (tm (tm f f) s) x hh hx _) (fun w' hb' => hK _ _ ⟨v5, v13, v14, v15, v16, (el (tm (tm f f) s)), (el x), el (tm (tm (tm f f) s) x), rfl, fun h => h0 (by simpa using h), fun h => h1 (by simpa using h), fun h => h2 (by simpa using h), fun h => h3 (by simpa using h), fun _ => rfl, fun _ => rfl, fun _ => rfl, fun h => by have := h8 (by simpa using h); simpa using this, bnext hb hb', fun h => by
        obtain ⟨p, e1, e2, c, e3, e4, e5⟩ := h7 (by simpa using h)
        exact ⟨p, e1, e2, c, row_below e3 hb', e4, fun h => e5 (by simpa using h)⟩⟩)⟩
    · cases ho
      refine ⟨rfl, oper_alloc 29 rfl (.pointer (some ⟨wr.heap.size, 0, none⟩)) (by simp [go_sem]; rfl) (hK _ _ ⟨.pointer (some ⟨wr.heap.size, 0, none⟩), v13, v14, v15, v16, v17, v18, v19, rfl, fun h => h0 (by simpa using h), fun h => h1 (by simpa using h), fun h => h2 (by simpa using h), fun h => h3 (by simpa using h), fun h => h4 (by simpa using h), fun h => h5 (by simpa using h), fun h => h6 (by simpa using h), fun _ => rfl, bnext hb (below1 _ _), fun _ => ⟨wr.heap.size, rfl, hb.size, _, row_new _ _, rfl, fun h => absurd (h8 (by simpa using h)) (by simp [hD])⟩⟩)⟩
    · cases ho
      have d7 := hdep { on := 7, ground := .data } (by simp) rfl
      have d6 := h6 (hdep { on := 6, ground := .data } (by simp) rfl)
      subst d6
      obtain ⟨p, rfl, e2, c, e3, e4, e5⟩ := h7 d7
      refine ⟨rfl, oper_store 29 (.tmp 5) (.tmp 19) rfl p (cs (tm (tm (tm f f) s) x)) c _ rfl rfl (by kernel_rfl) e3 e4 (cs_one _) (hK _ _ ⟨_, v13, v14, v15, v16, v17, v18, _, rfl, fun h => h0 (by simpa using h), fun h => h1 (by simpa using h), fun h => h2 (by simpa using h), fun h => h3 (by simpa using h), fun h => h4 (by simpa using h), fun h => h5 (by simpa using h), fun _ => rfl, fun _ => by simpa using d7, below_setRow hb e2 _, fun _ => ⟨p, rfl, e2, _, setRow_heap _ _ _ _ _ _ e3, rfl, fun _ => rfl⟩⟩)⟩
  · intro D a wr hinv hall
    obtain ⟨v5, v13, v14, v15, v16, v17, v18, v19, rfl, h0, h1, h2, h3, h4, h5, h6, h8, hb, h7⟩ := hinv
    have a0 := h0 (hall 0 (by simp)); have a1 := h1 (hall 1 (by simp)); have a2 := h2 (hall 2 (by simp)); have a3 := h3 (hall 3 (by simp)); have a4 := h4 (hall 4 (by simp)); have a5 := h5 (hall 5 (by simp)); have a6 := h6 (hall 6 (by simp))
    obtain ⟨p, a7, e2, c, e3, e4, e5⟩ := h7 (hall 7 (by simp))
    have e6 := e5 (hall 8 (by simp))
    subst a0 a1 a2 a3 a4 a5 a6 a7 e6
    clear h0 h1 h2 h3 h4 h5 h6 h7 h8 hall e4 e5 ctm
    replace ra := row_below ra hb
    replace rr := row_below rr hb
    have rr0 := rr
    replace hw := bnext hw hb
    clear rs rf
    go_wp2_with (refine wpList_load_agg rfl 29 (.tmp 1) rfl w.heap.size _ _ rfl Try.underlying29 rfl (by kernel_rfl) ra ?_)
    refine (ones_any x hx _).mono ?_
    rintro e u4 ⟨z, E, b, hz, hE, ez, rfl, hbz, hb4, rb⟩
    have rp := row_below e3 hb4
    replace rr := row_below rr hb4
    have lp := row_lt e3
    have lr := hw.size
    clear e3 ra
    go_wp2_with (refine wpList_load_agg rfl 29 (.tmp 5) rfl p _ _ rfl Try.underlying29 rfl (by kernel_rfl) rp ?_)
    refine (grow_any 5 b (by omega) z _ hz hl _ _ rb).mono ?_
    rintro e u5 ⟨y, hy, ey, rfl, hm, rb5⟩
    have hlt := row_lt rr
    have nb : w.heap.size + 1 ≠ b := by
      intro h
      have := row_lt rr0
      omega
    replace rr := row_mod rr hm nb
    go_wp2_with (refine wpList_store_row rfl 29 (.tmp 2) (.tmp 24) rfl (w.heap.size + 1) (cs y) _ _ rfl rfl (by kernel_rfl) rr rfl (cs_one y) rfl ?_)
    have hlast : Below w.heap.size w u5 := below_mod (bnext hw hb4) hm (Nat.le_trans hw.size hbz)
    obtain ⟨k, hk1, hk2⟩ := inv_pow hE.out ez.out es.out ef.out eg.out eh.out e11.out ey.out hx.2
    exact bodyPost_ret (v := el y) (results_agg rfl _ rfl Try.underlying29 rfl (by kernel_rfl) (setRow_heap _ _ _ _ _ _ rr)) rfl ⟨y, k, hy, hide1 hk1, hide1 hk2, rfl, below_setRow hlast (by omega) _⟩
end Go.Proofs.Ytpogmflgmpifoaa

namespace Go.Proofs.Ytpogmflgmpifoaa
open Go.RowKit

/-- The byte number i of four words. -/
def byt (x : Nat → Nat) (i : Nat) : Nat := x (i / 8) / 256 ^ (i % 8) % 256
/-- Bytes, so many of them laid. -/
def kf (x : Nat → Nat) (k j : Nat) : Value := if j < k then .int .u8 (byt x j) else .int .u8 0

theorem byt_int {x : Nat → Nat} {k j m : Nat} (hj : k / 8 = j) (hm : m = k % 8) : ((x j : Nat) : Int) / 2 ^ (m * 8) % 256 = ((byt x k : Nat) : Int) := by
  unfold byt
  rw [hj, ← hm, show (256 : Nat) = 2 ^ 8 from rfl, ← Nat.pow_mul, Nat.mul_comm 8 m]
  simp

theorem kf_next (x : Nat → Nat) (k : Nat) : arr 32 (upd (kf x k) k (.int .u8 (byt x k))) = arr 32 (kf x (k + 1)) := by
  refine arr_congr fun i _ => ?_
  unfold upd kf
  by_cases h : i = k
  · subst h; simp
  · have : (i < k + 1) = (i < k) := by simp; omega
    simp [h, this]

set_option maxHeartbeats 1000000 in
theorem key_any (x : Nat → Nat) (hx : Ok x) (w : World) :
    Calls Try.prog 26 #[el x] w fun e w' => e = .returned (.agg (arr 32 fun i => .int .u8 (byt x i))) ∧ Below w.heap.size w w' := by
  have x0 := hx.1 0; have x1 := hx.1 1; have x2 := hx.1 2; have x3 := hx.1 3
  have hA1 := @arr_get; have hA2 := @arr_set
  go_enter Try.func26, Try.ntmps26
  go_wp2
  go_loopw [5] (fun i wr => ∃ k : Nat, k ≤ 32 ∧ i = .int .i64 k ∧ ∃ z, z = arr 32 (fun _ => .int .u8 0) ∧ wr = ((w.alloc (.cells #[.int .u64 (x 0), .int .u64 (x 1), .int .u64 (x 2), .int .u64 (x 3)] 29)).alloc (.cells z 23)).alloc (.cells (arr 32 (kf x k)) 23)) (fun i _ => 32 - (intOf i).toNat)
  case atStart =>
    refine ⟨0, by omega, rfl, _, rfl, ?_⟩
    rw [arr_rep (f := kf x 0) (v := .int .u8 0) (fun i _ => by simp [kf]), arr_rep (v := .int .u8 0) (fun i _ => rfl)]; rfl
  case round =>
    obtain ⟨k, hk, rfl, z, rfl, rfl⟩ := hrel
    by_cases hlt : k < 32
    · have hk2 : (k : Int) < 32 := by omega
      obtain ⟨m, hm⟩ : ∃ m, Hid (m = k % 8) := ⟨_, hide1 rfl⟩
      by_cases h0 : k < 8
      · have q0 : (k : Int) / 8 = 0 := by omega
        have q1 : (k : Int) % 8 = (m : Int) := by have := hm.out; omega
        have q2 : m < 8 := by have := hm.out; omega
        have q3 : (x 0 : Int) / 2 ^ (m * 8) % 256 = ((byt x k : Nat) : Int) := byt_int (by omega) hm.out
        go_wp2
        go_roundw
        case rel => exact ⟨k + 1, by omega, by go_num, _, rfl, by rw [kf_next]⟩
        case measure => simp [intOf]; omega
      by_cases h1 : k < 16
      · have q0 : (k : Int) / 8 = 1 := by omega
        have q1 : (k : Int) % 8 = (m : Int) := by have := hm.out; omega
        have q2 : m < 8 := by have := hm.out; omega
        have q3 : (x 1 : Int) / 2 ^ (m * 8) % 256 = ((byt x k : Nat) : Int) := byt_int (by omega) hm.out
        go_wp2
        go_roundw
        case rel => exact ⟨k + 1, by omega, by go_num, _, rfl, by rw [kf_next]⟩
        case measure => simp [intOf]; omega
      by_cases h2 : k < 24
      · have q0 : (k : Int) / 8 = 2 := by omega
        have q1 : (k : Int) % 8 = (m : Int) := by have := hm.out; omega
        have q2 : m < 8 := by have := hm.out; omega
        have q3 : (x 2 : Int) / 2 ^ (m * 8) % 256 = ((byt x k : Nat) : Int) := byt_int (by omega) hm.out
        go_wp2
        go_roundw
        case rel => exact ⟨k + 1, by omega, by go_num, _, rfl, by rw [kf_next]⟩
        case measure => simp [intOf]; omega
      · have q0 : (k : Int) / 8 = 3 := by omega
        have q1 : (k : Int) % 8 = (m : Int) := by have := hm.out; omega
        have q2 : m < 8 := by have := hm.out; omega
        have q3 : (x 3 : Int) / 2 ^ (m * 8) % 256 = ((byt x k : Nat) : Int) := byt_int (by omega) hm.out
        go_wp2
        go_roundw
        case rel => exact ⟨k + 1, by omega, by go_num, _, rfl, by rw [kf_next]⟩
        case measure => simp [intOf]; omega
    · obtain rfl : k = 32 := by omega
      rw [arr_congr (n := 32) (f := kf x 32) (g := fun i => .int .u8 (byt x i)) (fun i hi => by simp [kf, hi])]
      go_wp2_with (first
        | (refine wpList_load_row rfl 23 (.tmp 3) rfl (w.heap.size + 1 + 1) _ _ rfl Try.underlying23 (by rw [arr_size]; kernel_rfl) (row3_2 _ _ _ _) ?_)
        | (refine wpList_store_row rfl 23 (.tmp 2) (.tmp 21) rfl (w.heap.size + 1) _ _ _ rfl rfl (by rw [arr_size]; kernel_rfl) (row3_1 _ _ _ _) (by simp [arr_size]) arr_one rfl ?_))
      exact bodyPost_ret (v := .agg (arr 32 fun i => .int .u8 (byt x i))) (results_row rfl _ rfl Try.underlying23 (by rw [arr_size]; kernel_rfl) (setRow_heap _ _ _ _ _ _ (row3_1 _ _ _ _))) rfl ⟨rfl, below_setRow (below3 _ _ _ _) (by omega) _⟩
end Go.Proofs.Ytpogmflgmpifoaa

namespace Go.Proofs.Ytpogmflgmpifoaa
open Go.RowKit

/-- Word number j of the first k bytes. -/
def rd (b : Nat → Nat) : Nat → Nat → Nat
  | 0, _ => 0
  | k + 1, j => if k / 8 = j then rd b k j + b k * 256 ^ (k % 8) else rd b k j

theorem rd_ne {b : Nat → Nat} {k j : Nat} (h : ¬ k / 8 = j) : rd b (k + 1) j = rd b k j := by rw [rd, if_neg h]

theorem rd_lt {b : Nat → Nat} (hb : ∀ i, b i < 256) : ∀ k j, rd b k j < 256 ^ (if k / 8 = j then k % 8 else if k / 8 < j then 0 else 8) := by
  intro k
  induction k with
  | zero => intro j; simp only [rd]; exact Nat.pow_pos (by omega)
  | succ k ih =>
    intro j
    have h := ih j
    by_cases e : k / 8 = j
    · rw [rd, if_pos e]
      rw [if_pos e] at h
      have h1 : (256 : Nat) ^ (k % 8 + 1) = 256 ^ (k % 8) * 256 := Nat.pow_succ 256 (k % 8)
      have h2 : (b k + 1) * 256 ^ (k % 8) ≤ 256 * 256 ^ (k % 8) := Nat.mul_le_mul_right _ (hb k)
      have h3 : (b k + 1) * 256 ^ (k % 8) = b k * 256 ^ (k % 8) + 256 ^ (k % 8) := by rw [Nat.add_mul, Nat.one_mul]
      have h4 : rd b k j + b k * 256 ^ (k % 8) < 256 ^ (k % 8 + 1) := by rw [h1, Nat.mul_comm _ 256]; omega
      by_cases e2 : (k + 1) / 8 = j
      · rw [if_pos e2, show (k + 1) % 8 = k % 8 + 1 by omega]; exact h4
      · rw [if_neg e2, if_neg (by omega)]
        have e7 : k % 8 = 7 := by omega
        rw [e7] at h4 ⊢
        exact h4
    · rw [rd_ne e]
      rw [if_neg e] at h
      by_cases e2 : (k + 1) / 8 = j
      · rw [if_pos e2, show (k + 1) % 8 = 0 by omega]
        rw [if_pos (by omega)] at h; exact h
      · rw [if_neg e2]
        by_cases e3 : k / 8 < j
        · rw [if_pos (by omega)]; rw [if_pos e3] at h; exact h
        · rw [if_neg (by omega)]; rw [if_neg e3] at h; exact h

theorem rd_word {b : Nat → Nat} (hb : ∀ i, b i < 256) (k j : Nat) : rd b k j < 18446744073709551616 := by
  have h := rd_lt hb k j
  have : (256 : Nat) ^ (if k / 8 = j then k % 8 else if k / 8 < j then 0 else 8) ≤ 256 ^ 8 := Nat.pow_le_pow_right (by omega) (by split <;> (try split) <;> omega)
  exact Nat.lt_of_lt_of_le h this

theorem rd_or {b : Nat → Nat} (hb : ∀ i, b i < 256) {k j m : Nat} (hj : k / 8 = j) (hm : m = k % 8) :
    bits .or .u64 ((rd b k j : Nat) : Int) (IntKind.u64.wrap (((b k : Nat) : Int) * 2 ^ (m * 8))) = ((rd b (k + 1) j : Nat) : Int) := by
  have h1 := rd_lt hb k j
  rw [if_pos hj, ← hm] at h1
  have hw := rd_word hb (k + 1) j
  have e : rd b (k + 1) j = rd b k j + b k * 256 ^ m := by rw [rd, if_pos hj, hm]
  have e2 : (256 : Nat) ^ m = 2 ^ (m * 8) := by rw [show (256 : Nat) = 2 ^ 8 from rfl, ← Nat.pow_mul, Nat.mul_comm]
  rw [e2] at h1 e
  have hv : b k * 2 ^ (m * 8) < 18446744073709551616 := by omega
  have e3 : IntKind.u64.wrap (((b k : Nat) : Int) * 2 ^ (m * 8)) = ((b k * 2 ^ (m * 8) : Nat) : Int) := by
    rw [show (((b k : Nat) : Int) * 2 ^ (m * 8)) = ((b k * 2 ^ (m * 8) : Nat) : Int) by simp]
    exact wrapN _ hv
  rw [e3, u64_or_nat _ _ (rd_word hb k j) hv, e]
  congr 1
  have := Nat.two_pow_add_eq_or_of_lt h1 (b k)
  rw [Nat.or_comm, Nat.mul_comm (b k), ← this, Nat.add_comm]

theorem index_key (f : Nat → Value) (k : Nat) (hk : k < 32) (w : World) : (Instr.index 23 (.agg (arr 32 f)) (.int .i64 k)).run Try.prog w = .ok (f k) w := by
  simp [Instr.index, go_sem, arr_get, hk]

set_option maxHeartbeats 1000000 in
theorem read_any (b : Nat → Nat) (hb : ∀ i, b i < 256) (w : World) :
    Calls Try.prog 56 #[.agg (arr 32 fun i => .int .u8 (b i))] w fun e w' => e = .returned (wv (rd b 32 0) (rd b 32 1) (rd b 32 2) (rd b 32 3)) ∧ Below w.heap.size w w' := by
  have hsd := @set_drewN
  obtain ⟨R, HR⟩ : ∃ R : Nat → Nat → Nat, Hid (R = rd b) := ⟨_, hide1 rfl⟩
  rw [← HR.out]
  have hR0 : ∀ j, R 0 j = 0 := fun j => by rw [HR.out]; rfl
  go_enter Try.func56, Try.ntmps56
  go_wp2_with (refine wpList_load_row rfl 23 (.tmp 1) rfl w.heap.size _ _ rfl Try.underlying23 (by rw [arr_size]; kernel_rfl) (row3_0 _ _ _ _) ?_)
  go_loopw [7] (fun i wr => ∃ k n : Nat, k ≤ 32 ∧ i = .int .i64 k ∧ wr = (((w.alloc (.cells (arr 32 fun i => .int .u8 (b i)) 23)).alloc (.cells #[.int .u64 0, .int .u64 0, .int .u64 0, .int .u64 0] 27)).alloc (.cells #[.int .u64 (R k 0), .int .u64 (R k 1), .int .u64 (R k 2), .int .u64 (R k 3)] 27)).drewN n) (fun i _ => 32 - (intOf i).toNat)
  case atStart => exact ⟨0, 0, by omega, rfl, by simp only [hR0]; rfl⟩
  case round =>
    obtain ⟨k, n, hk, rfl, rfl⟩ := hrel
    by_cases hlt : k < 32
    · have hk2 : (k : Int) < 32 := by omega
      have hin := index_key (fun i => .int .u8 (b i)) k hlt
      have hbk := hb k
      obtain ⟨m, hm⟩ : ∃ m, Hid (m = k % 8) := ⟨_, hide1 rfl⟩
      have q1 : (k : Int) % 8 = (m : Int) := by have := hm.out; omega
      have q2 : m < 8 := by have := hm.out; omega
      by_cases h0 : k < 8
      · have q0 : (k : Int) / 8 = 0 := by omega
        have q3 := rd_or hb (k := k) (j := 0) (by omega) hm.out
        have w0 := rd_word hb k 0
        rw [← HR.out] at q3 w0
        go_wp2
        go_region
        go_wp2
        go_roundw
        case rel => exact ⟨k + 1, n + 1, by omega, by go_num, by rw [show R (k + 1) 1 = R k 1 by rw [HR.out]; exact rd_ne (by omega), show R (k + 1) 2 = R k 2 by rw [HR.out]; exact rd_ne (by omega), show R (k + 1) 3 = R k 3 by rw [HR.out]; exact rd_ne (by omega)]⟩
        case measure => simp [intOf]; omega
      by_cases h1 : k < 16
      · have q0 : (k : Int) / 8 = 1 := by omega
        have q3 := rd_or hb (k := k) (j := 1) (by omega) hm.out
        have w0 := rd_word hb k 1
        rw [← HR.out] at q3 w0
        go_wp2
        go_region
        go_wp2
        go_roundw
        case rel => exact ⟨k + 1, n + 1, by omega, by go_num, by rw [show R (k + 1) 0 = R k 0 by rw [HR.out]; exact rd_ne (by omega), show R (k + 1) 2 = R k 2 by rw [HR.out]; exact rd_ne (by omega), show R (k + 1) 3 = R k 3 by rw [HR.out]; exact rd_ne (by omega)]⟩
        case measure => simp [intOf]; omega
      by_cases h2 : k < 24
      · have q0 : (k : Int) / 8 = 2 := by omega
        have q3 := rd_or hb (k := k) (j := 2) (by omega) hm.out
        have w0 := rd_word hb k 2
        rw [← HR.out] at q3 w0
        go_wp2
        go_region
        go_wp2
        go_roundw
        case rel => exact ⟨k + 1, n + 1, by omega, by go_num, by rw [show R (k + 1) 0 = R k 0 by rw [HR.out]; exact rd_ne (by omega), show R (k + 1) 1 = R k 1 by rw [HR.out]; exact rd_ne (by omega), show R (k + 1) 3 = R k 3 by rw [HR.out]; exact rd_ne (by omega)]⟩
        case measure => simp [intOf]; omega
      · have q0 : (k : Int) / 8 = 3 := by omega
        have q3 := rd_or hb (k := k) (j := 3) (by omega) hm.out
        have w0 := rd_word hb k 3
        rw [← HR.out] at q3 w0
        go_wp2
        go_region
        go_wp2
        go_roundw
        case rel => exact ⟨k + 1, n + 1, by omega, by go_num, by rw [show R (k + 1) 0 = R k 0 by rw [HR.out]; exact rd_ne (by omega), show R (k + 1) 1 = R k 1 by rw [HR.out]; exact rd_ne (by omega), show R (k + 1) 2 = R k 2 by rw [HR.out]; exact rd_ne (by omega)]⟩
        case measure => simp [intOf]; omega
    · obtain rfl : k = 32 := by omega
      go_wp2
      exact bodyPost_ret (v := wv (R 32 0) (R 32 1) (R 32 2) (R 32 3)) (by simp [results, Try.results56, go_sem]) rfl ⟨rfl, below_drewN (below3 _ _ _ _) n⟩
end Go.Proofs.Ytpogmflgmpifoaa

namespace Go.Proofs.Ytpogmflgmpifoaa
open Go.RowKit

/-- The number of the first k bytes. -/
def nb (b : Nat → Nat) : Nat → Nat
  | 0 => 0
  | k + 1 => nb b k + b k * 256 ^ k

theorem nb_lt {b : Nat → Nat} (hb : ∀ i, b i < 256) : ∀ k, nb b k < 256 ^ k := by
  intro k
  induction k with
  | zero => simp [nb]
  | succ k ih =>
    have h2 : (b k + 1) * 256 ^ k ≤ 256 * 256 ^ k := Nat.mul_le_mul_right _ (hb k)
    have h3 : (b k + 1) * 256 ^ k = b k * 256 ^ k + 256 ^ k := by rw [Nat.add_mul, Nat.one_mul]
    rw [nb, Nat.pow_succ, Nat.mul_comm _ 256]
    omega

theorem rd_nb (b : Nat → Nat) : ∀ k, k ≤ 32 → num (rd b k 0) (rd b k 1) (rd b k 2) (rd b k 3) = nb b k := by
  intro k
  induction k with
  | zero => intro _; rfl
  | succ k ih =>
    intro h
    have ih := ih (by omega)
    rw [nb, ← ih]
    have hp : (256 : Nat) ^ k = 256 ^ (8 * (k / 8)) * 256 ^ (k % 8) := by rw [← Nat.pow_add, Nat.div_add_mod]
    have hm : b k * 256 ^ k = 256 ^ (8 * (k / 8)) * (b k * 256 ^ (k % 8)) := by rw [hp, Nat.mul_left_comm]
    rw [hm]
    have c : k / 8 = 0 ∨ k / 8 = 1 ∨ k / 8 = 2 ∨ k / 8 = 3 := by omega
    rcases c with c | c | c | c
    · have r0 : rd b (k + 1) 0 = rd b k 0 + b k * 256 ^ (k % 8) := by rw [rd, if_pos c]
      have r1 : rd b (k + 1) 1 = rd b k 1 := rd_ne (by omega)
      have r2 : rd b (k + 1) 2 = rd b k 2 := rd_ne (by omega)
      have r3 : rd b (k + 1) 3 = rd b k 3 := rd_ne (by omega)
      rw [r0, r1, r2, r3, c]
      generalize b k * 256 ^ (k % 8) = v
      simp only [Nat.reduceMul, Nat.reducePow]
      unfold num
      omega
    · have r0 : rd b (k + 1) 0 = rd b k 0 := rd_ne (by omega)
      have r1 : rd b (k + 1) 1 = rd b k 1 + b k * 256 ^ (k % 8) := by rw [rd, if_pos c]
      have r2 : rd b (k + 1) 2 = rd b k 2 := rd_ne (by omega)
      have r3 : rd b (k + 1) 3 = rd b k 3 := rd_ne (by omega)
      rw [r0, r1, r2, r3, c]
      generalize b k * 256 ^ (k % 8) = v
      simp only [Nat.reduceMul, Nat.reducePow]
      unfold num
      omega
    · have r0 : rd b (k + 1) 0 = rd b k 0 := rd_ne (by omega)
      have r1 : rd b (k + 1) 1 = rd b k 1 := rd_ne (by omega)
      have r2 : rd b (k + 1) 2 = rd b k 2 + b k * 256 ^ (k % 8) := by rw [rd, if_pos c]
      have r3 : rd b (k + 1) 3 = rd b k 3 := rd_ne (by omega)
      rw [r0, r1, r2, r3, c]
      generalize b k * 256 ^ (k % 8) = v
      simp only [Nat.reduceMul, Nat.reducePow]
      unfold num
      omega
    · have r0 : rd b (k + 1) 0 = rd b k 0 := rd_ne (by omega)
      have r1 : rd b (k + 1) 1 = rd b k 1 := rd_ne (by omega)
      have r2 : rd b (k + 1) 2 = rd b k 2 := rd_ne (by omega)
      have r3 : rd b (k + 1) 3 = rd b k 3 + b k * 256 ^ (k % 8) := by rw [rd, if_pos c]
      rw [r0, r1, r2, r3, c]
      generalize b k * 256 ^ (k % 8) = v
      simp only [Nat.reduceMul, Nat.reducePow]
      unfold num
      omega

set_option maxHeartbeats 1000000 in
theorem of_any (b : Nat → Nat) (hb : ∀ i, b i < 256) :
    ∃ x : Nat → Nat, Ok x ∧ Hid (nm x = nb b 32 % 57896044618658097711785492504343953926634992332820282019728792003956564819968 % pp) ∧
    ∀ w, Calls Try.prog 25 #[.agg (arr 32 fun i => .int .u8 (b i))] w fun e w' => e = .returned (el x) ∧ Below w.heap.size w w' := by
  have c0 := read_any b hb
  have hn := rd_nb b 32 (by omega)
  have b0 := rd_word hb 32 0; have b1 := rd_word hb 32 1; have b2 := rd_word hb 32 2; have b3 := rd_word hb 32 3
  generalize rd b 32 0 = r0 at *
  generalize rd b 32 1 = r1 at *
  generalize rd b 32 2 = r2 at *
  generalize rd b 32 3 = r3 at *
  have c1 := low_any r0 r1 r2 r3 b3
  obtain ⟨s, hs⟩ : ∃ s, Hid (s = r3 % 9223372036854775808) := ⟨_, hide1 rfl⟩
  rw [← hs.out] at c1
  obtain ⟨x, hx, e2, c2⟩ := settle_any r0 r1 r2 s 0 b0 b1 b2 (by have := hs.out; omega) (by omega)
  refine ⟨x, hx, hide1 ?_, fun w => ?_⟩
  · rw [e2.out, ← hn]
    have := hs.out
    congr 1
    unfold num
    omega
  clear e2 hs hx hn
  have c2' : ∀ w, Calls Try.prog 55 #[wv r0 r1 r2 s, .int .u64 0] w fun e w' => e = .returned (el x) ∧ Below w.heap.size w w' := c2
  clear c2
  have hA1 := @aft_cell; have hA2 := @aft_frozen; have hA3 := @aft_set
  go_enter Try.func25, Try.ntmps25
  go_wp2_with (refine wpList_load_row rfl 23 (.tmp 1) rfl w.heap.size _ _ rfl Try.underlying23 (by rw [arr_size]; kernel_rfl) (row2_0 _ _ _) ?_)
  refine (c0 _).mono ?_
  rintro e w1 ⟨rfl, hb1⟩
  go_wp2_with fail
  refine (c1 _).mono ?_
  rintro e w2 ⟨rfl, hb2⟩
  go_wp2_with fail
  refine (c2' _).mono ?_
  rintro e w3 ⟨rfl, hb3⟩
  obtain ⟨g, rfl⟩ := aft_of (bnext (bnext hb1 hb2) hb3)
  clear hb1 hb2 hb3 c0 c1 c2'
  go_wp2_with fail
  exact bodyPost_ret (v := el x) (by simp [results, Try.results25, go_sem, hA1]) rfl ⟨rfl, bnext (below2 _ _ _) (aft_below _ _)⟩

end Go.Proofs.Ytpogmflgmpifoaa

namespace Go.Proofs.Ytpogmflgmpifoaa

/-- A prime. -/
def Prm (p : Nat) : Prop := 1 < p ∧ ∀ d, d ∣ p → d = 1 ∨ d = p

theorem Prm.cop {p a : Nat} (h : Prm p) (ha : ¬ p ∣ a) : Nat.gcd p a = 1 := by
  rcases h.2 _ (Nat.gcd_dvd_left p a) with e | e
  · exact e
  · exfalso; apply ha
    have := Nat.gcd_dvd_right p a
    rwa [e] at this

theorem Prm.euclid {p a b : Nat} (h : Prm p) (hab : p ∣ a * b) : p ∣ a ∨ p ∣ b := by
  by_cases ha : p ∣ a
  · exact Or.inl ha
  · exact Or.inr (Nat.Coprime.dvd_of_dvd_mul_left (h.cop ha) hab)

/-- Binomial numbers. -/
def ch : Nat → Nat → Nat
  | _, 0 => 1
  | 0, _ + 1 => 0
  | n + 1, k + 1 => ch n k + ch n (k + 1)

theorem ch_zero (n : Nat) : ch n 0 = 1 := by cases n <;> rfl
theorem ch_succ (n k : Nat) : ch (n + 1) (k + 1) = ch n k + ch n (k + 1) := rfl
theorem ch_past (n : Nat) : ∀ k, n < k → ch n k = 0 := by
  induction n with
  | zero => intro k hk; cases k with
    | zero => omega
    | succ k => rfl
  | succ n ih => intro k hk; cases k with
    | zero => omega
    | succ k => rw [ch_succ, ih k (by omega), ih (k + 1) (by omega)]

theorem ch_absorb (n : Nat) : ∀ k, (k + 1) * ch (n + 1) (k + 1) = (n + 1) * ch n k := by
  induction n with
  | zero => intro k; cases k with
    | zero => rfl
    | succ k => rw [ch_past 1 (k + 1 + 1) (by omega), ch_past 0 (k + 1) (by omega)]; simp
  | succ n ih => intro k; cases k with
    | zero =>
      have := ih 0
      rw [ch_succ, ch_zero]
      rw [ch_zero] at this
      omega
    | succ j =>
      have h1 := ih j
      have h2 := ih (j + 1)
      have h3 := ch_succ n j
      rw [ch_succ (n + 1) (j + 1)]
      have e1 : (j + 1 + 1) * (ch (n + 1) (j + 1) + ch (n + 1) (j + 1 + 1)) = (j + 1) * ch (n + 1) (j + 1) + ch (n + 1) (j + 1) + (j + 1 + 1) * ch (n + 1) (j + 1 + 1) := by
        rw [Nat.mul_add, Nat.add_mul (j + 1) 1, Nat.one_mul]
      rw [e1, h1, h2]
      have e2 : (n + 1 + 1) * ch (n + 1) (j + 1) = (n + 1) * ch (n + 1) (j + 1) + ch (n + 1) (j + 1) := by rw [Nat.add_mul (n + 1) 1, Nat.one_mul]
      have e3 : (n + 1) * ch (n + 1) (j + 1) = (n + 1) * ch n j + (n + 1) * ch n (j + 1) := by rw [h3, Nat.mul_add]
      rw [e2, e3]
      omega

/-- The first so many terms of (a + 1) to the power n. -/
def bsum (a n : Nat) : Nat → Nat
  | 0 => 0
  | m + 1 => bsum a n m + ch n m * a ^ m

theorem bsum_succ (a n : Nat) : ∀ m, bsum a (n + 1) (m + 1) = bsum a n (m + 1) + a * bsum a n m := by
  intro m
  induction m with
  | zero => simp [bsum, ch_zero]
  | succ m ih =>
    have e1 : bsum a (n + 1) (m + 1 + 1) = bsum a (n + 1) (m + 1) + ch (n + 1) (m + 1) * a ^ (m + 1) := rfl
    have e2 : bsum a n (m + 1 + 1) = bsum a n (m + 1) + ch n (m + 1) * a ^ (m + 1) := rfl
    have e3 : bsum a n (m + 1) = bsum a n m + ch n m * a ^ m := rfl
    have e4 : a * (bsum a n m + ch n m * a ^ m) = a * bsum a n m + ch n m * a ^ (m + 1) := by
      rw [Nat.mul_add, Nat.pow_succ, Nat.mul_left_comm, Nat.mul_comm a (a ^ m)]
    rw [e1, ih, e2, ch_succ, Nat.add_mul]
    conv => rhs; rw [e3, e4]
    rw [← e3]
    omega

theorem bsum_pow (a n : Nat) : bsum a n (n + 1) = (a + 1) ^ n := by
  induction n with
  | zero => simp [bsum, ch_zero]
  | succ n ih =>
    have e : bsum a n (n + 1 + 1) = bsum a n (n + 1) + ch n (n + 1) * a ^ (n + 1) := rfl
    rw [bsum_succ, e, ch_past n (n + 1) (by omega), ih, Nat.pow_succ (a + 1), Nat.mul_add, Nat.mul_comm a]
    omega

theorem ch_prime {p : Nat} (hp : Prm p) (k : Nat) (h0 : 0 < k) (hk : k < p) : p ∣ ch p k := by
  obtain ⟨j, rfl⟩ : ∃ j, k = j + 1 := ⟨k - 1, by omega⟩
  obtain ⟨q, rfl⟩ : ∃ q, p = q + 1 := ⟨p - 1, by omega⟩
  have h := ch_absorb q j
  have hd : q + 1 ∣ (j + 1) * ch (q + 1) (j + 1) := ⟨_, h⟩
  rcases hp.euclid hd with h1 | h1
  · exact absurd (Nat.le_of_dvd (by omega) h1) (by omega)
  · exact h1

theorem bsum_prime {p : Nat} (hp : Prm p) (a : Nat) : ∀ m, m < p → bsum a p (m + 1) % p = 1 % p := by
  intro m
  induction m with
  | zero => intro _; simp [bsum, ch_zero]
  | succ m ih =>
    intro h
    have e : bsum a p (m + 1 + 1) = bsum a p (m + 1) + ch p (m + 1) * a ^ (m + 1) := rfl
    obtain ⟨c, hc⟩ := ch_prime hp (m + 1) (by omega) h
    rw [e, hc, Nat.mul_assoc, Nat.add_mul_mod_self_left]
    exact ih (by omega)

theorem fresh {p : Nat} (hp : Prm p) (a : Nat) : (a + 1) ^ p % p = (a ^ p + 1) % p := by
  have h := bsum_pow a p
  obtain ⟨q, rfl⟩ : ∃ q, p = q + 1 := ⟨p - 1, by have := hp.1; omega⟩
  have e : bsum a (q + 1) (q + 1 + 1) = bsum a (q + 1) (q + 1) + ch (q + 1) (q + 1) * a ^ (q + 1) := rfl
  have hc : ch (q + 1) (q + 1) = 1 := by
    have : ∀ n, ch n n = 1 := by
      intro n
      induction n with
      | zero => rfl
      | succ n ih => rw [ch_succ, ih, ch_past n (n + 1) (by omega)]
    exact this _
  rw [← h, e, hc, Nat.one_mul, Nat.add_comm, Nat.add_mod, bsum_prime hp a q (by omega), ← Nat.add_mod]

theorem fermat_pow {p : Nat} (hp : Prm p) (a : Nat) : a ^ p % p = a % p := by
  induction a with
  | zero => rw [Nat.zero_pow (by have := hp.1; omega)]
  | succ a ih => rw [fresh hp, Nat.add_mod, ih, ← Nat.add_mod]

/-- Fermat's theorem. -/
theorem fermat {p : Nat} (hp : Prm p) (a : Nat) (ha : ¬ p ∣ a) : a ^ (p - 1) % p = 1 := by
  have h := fermat_pow hp a
  have h1 := hp.1
  have hpos : 0 < a := by
    rcases Nat.eq_zero_or_pos a with e | e
    · exact absurd (e ▸ Nat.dvd_zero p) ha
    · exact e
  have hpow : 0 < a ^ (p - 1) := Nat.pow_pos hpos
  have e : a ^ p = a * a ^ (p - 1) := by
    conv => lhs; rw [show p = (p - 1) + 1 by omega, Nat.pow_succ, Nat.mul_comm]
  have hd : p ∣ a * (a ^ (p - 1) - 1) := by
    rw [Nat.mul_sub, ← e, Nat.mul_one]
    have hle : a ≤ a ^ p := by rw [e]; exact Nat.le_mul_of_pos_right a hpow
    refine ⟨a ^ p / p - a / p, ?_⟩
    have d1 := Nat.div_add_mod (a ^ p) p
    have d2 := Nat.div_add_mod a p
    rw [Nat.mul_sub]
    omega
  rcases hp.euclid hd with h2 | h2
  · exact absurd h2 ha
  · obtain ⟨c, hc⟩ := h2
    have : a ^ (p - 1) = p * c + 1 := by omega
    rw [this, Nat.mul_add_mod, Nat.mod_eq_of_lt h1]

theorem least (P : Nat → Prop) : ∀ n, P n → ∃ m, P m ∧ ∀ k, k < m → ¬ P k := by
  intro n
  induction n using Nat.strongRecOn with
  | _ n ih =>
    intro h
    by_cases hk : ∃ k, k < n ∧ P k
    · obtain ⟨k, h1, h2⟩ := hk
      exact ih k h1 h2
    · exact ⟨n, h, fun k h1 h2 => hk ⟨k, h1, h2⟩⟩

theorem small_factor {n : Nat} (h1 : 1 < n) (hn : ¬ Prm n) : ∃ r, Prm r ∧ r ∣ n ∧ r * r ≤ n := by
  obtain ⟨r, ⟨hr1, hrd⟩, hmin⟩ := least (fun d => 1 < d ∧ d ∣ n) n ⟨h1, Nat.dvd_refl n⟩
  have hlow : ∀ d, 1 < d → d ∣ n → r ≤ d := fun d h h' => by
    rcases Nat.lt_or_ge d r with hl | hg
    · exact absurd ⟨h, h'⟩ (hmin d hl)
    · exact hg
  have hp : Prm r := by
    refine ⟨hr1, fun d hd => ?_⟩
    have hpos : 0 < d := Nat.pos_of_dvd_of_pos hd (by omega)
    have hle : d ≤ r := Nat.le_of_dvd (by omega) hd
    by_cases h : d = 1
    · exact Or.inl h
    · have := hlow d (by omega) (Nat.dvd_trans hd hrd)
      omega
  refine ⟨r, hp, hrd, ?_⟩
  obtain ⟨c, hc⟩ := hrd
  have hc1 : 1 < c := by
    rcases Nat.lt_or_ge 1 c with h | h
    · exact h
    · exfalso
      have : c = 0 ∨ c = 1 := by omega
      rcases this with rfl | rfl
      · omega
      · rw [Nat.mul_one] at hc
        exact hn (hc ▸ hp)
  have := hlow c hc1 ⟨r, by rw [hc, Nat.mul_comm]⟩
  rw [hc]
  exact Nat.mul_le_mul_left r this

/-- No number from 2 to k + 1 divides n. -/
def noDiv (n : Nat) : Nat → Bool
  | 0 => true
  | k + 1 => n % (k + 2) != 0 && noDiv n k

theorem noDiv_spec (n : Nat) : ∀ k, noDiv n k = true → ∀ d, 2 ≤ d → d ≤ k + 1 → n % d ≠ 0 := by
  intro k
  induction k with
  | zero => intro _ d h1 h2; omega
  | succ k ih =>
    intro h d h1 h2
    simp only [noDiv, Bool.and_eq_true, bne_iff_ne] at h
    by_cases e : d = k + 2
    · rw [e]; exact h.1
    · exact ih h.2 d h1 (by omega)

theorem prm_small (n k : Nat) (h1 : 1 < n) (h : noDiv n k = true) (hk : n < (k + 2) * (k + 2)) : Prm n := by
  by_cases hp : Prm n
  · exact hp
  · obtain ⟨r, hr, hd, hs⟩ := small_factor h1 hp
    have h2 := hr.1
    have : r < k + 2 := by
      rcases Nat.lt_or_ge r (k + 2) with h | h
      · exact h
      · have := Nat.mul_le_mul h h; omega
    exact absurd (Nat.mod_eq_zero_of_dvd hd) (noDiv_spec n k h r (by omega) (by omega))

/-- Powers modulo n, by the bits of the exponent. -/
def pmod (a n : Nat) : Nat → Nat → Nat
  | 0, _ => 1 % n
  | f + 1, e => bif e % 2 == 1 then pmod a n f (e / 2) * pmod a n f (e / 2) % n * a % n else pmod a n f (e / 2) * pmod a n f (e / 2) % n

theorem pmod_eq (a n : Nat) : ∀ f e, e < 2 ^ f → pmod a n f e = a ^ e % n := by
  intro f
  induction f with
  | zero => intro e h; obtain rfl : e = 0 := by simpa using h
            rfl
  | succ f ih =>
    intro e h
    have hh := ih (e / 2) (by rw [Nat.pow_succ] at h; omega)
    have hsq : a ^ (e / 2) % n * (a ^ (e / 2) % n) % n = a ^ (e / 2 * 2) % n := by
      rw [← Nat.mul_mod, Nat.pow_mul, Nat.pow_two]
    rcases Nat.mod_two_eq_zero_or_one e with h0 | h0
    · simp only [pmod, h0, hh, hsq]
      show a ^ (e / 2 * 2) % n = _
      rw [show e / 2 * 2 = e by omega]
    · simp only [pmod, h0, hh, hsq]
      show a ^ (e / 2 * 2) % n * a % n = _
      rw [Nat.mod_mul_mod, ← Nat.pow_succ, show (e / 2 * 2).succ = e by omega]

theorem pow_gcd {r a : Nat} (hr : 1 < r) : ∀ m n, a ^ m % r = 1 → a ^ n % r = 1 → a ^ Nat.gcd m n % r = 1 := by
  intro m n
  induction m, n using Nat.gcd.induction with
  | H0 n => intro _ h; rwa [Nat.gcd_zero_left]
  | H1 m n hm ih =>
    intro h1 h2
    rw [Nat.gcd_rec]
    refine ih ?_ h1
    have e : a ^ n = a ^ (n % m) * (a ^ m) ^ (n / m) := by
      rw [← Nat.pow_mul, ← Nat.pow_add, Nat.mod_add_div]
    rw [e, Nat.mul_mod, Nat.pow_mod (a ^ m), h1, Nat.one_pow, Nat.mod_eq_of_lt hr, Nat.mul_one, Nat.mod_mod] at h2
    exact h2

/-- One prime of Pocklington's test. -/
theorem pock_step {n s m a r : Nat} (hs : Prm s) (hn : n - 1 = s * m) (h1 : a ^ (n - 1) % n = 1) (h2 : Nat.gcd (a ^ m % n + n - 1) n = 1) (hr : Prm r) (hrn : r ∣ n) (hn1 : 1 < n) : s ∣ r - 1 := by
  have hr1 := hr.1
  have g1 : a ^ (n - 1) % r = 1 := by
    have := Nat.mod_mod_of_dvd (a ^ (n - 1)) hrn
    rw [h1, Nat.mod_eq_of_lt hr1] at this
    exact this.symm
  have hra : ¬ r ∣ a := by
    intro h
    have hpos : 0 < n - 1 := by omega
    have hd : r ∣ a ^ (n - 1) := Nat.dvd_trans h ⟨a ^ (n - 1 - 1), by rw [← Nat.pow_succ', Nat.succ_eq_add_one, show n - 1 - 1 + 1 = n - 1 by omega]⟩
    rw [Nat.mod_eq_zero_of_dvd hd] at g1
    omega
  have g2 := fermat hr a hra
  have g3 := pow_gcd hr1 _ _ g2 g1
  by_cases hd : s ∣ r - 1
  · exact hd
  · exfalso
    have hcop : Nat.gcd (r - 1) s = 1 := by rw [Nat.gcd_comm]; exact hs.cop hd
    have hg : Nat.gcd (r - 1) (n - 1) ∣ m := by
      rw [hn]
      have k1 : Nat.gcd (r - 1) (s * m) ∣ s * m := Nat.gcd_dvd_right _ _
      have k2 : Nat.gcd (Nat.gcd (r - 1) (s * m)) s = 1 := by
        have : Nat.gcd (Nat.gcd (r - 1) (s * m)) s ∣ Nat.gcd (r - 1) s := Nat.dvd_gcd (Nat.dvd_trans (Nat.gcd_dvd_left _ _) (Nat.gcd_dvd_left _ _)) (Nat.gcd_dvd_right _ _)
        rw [hcop] at this
        exact Nat.dvd_one.1 this
      exact Nat.Coprime.dvd_of_dvd_mul_left k2 k1
    obtain ⟨c, hc⟩ := hg
    have g4 : a ^ m % r = 1 := by
      rw [hc, Nat.pow_mul, Nat.pow_mod, g3, Nat.one_pow, Nat.mod_eq_of_lt hr1]
    have hx : r ∣ a ^ m % n + n - 1 := by
      have e := Nat.mod_mod_of_dvd (a ^ m) hrn
      rw [g4] at e
      have k : (a ^ m % n + n - 1) % r = 0 := by
        obtain ⟨t, ht⟩ := hrn
        generalize a ^ m % n = x at *
        have hx1 : x = r * (x / r) + 1 := by have := Nat.div_add_mod x r; omega
        have : x + n - 1 = r * (x / r + t) := by rw [Nat.mul_add, ← ht]; omega
        rw [this, Nat.mul_mod_right]
      exact Nat.dvd_of_mod_eq_zero k
    have := Nat.dvd_gcd hx hrn
    rw [h2] at this
    have := Nat.dvd_one.1 this
    omega

theorem pock {n f : Nat} (h1 : 1 < n) (hf : n < f * f) (h : ∀ r, Prm r → r ∣ n → f ∣ r - 1) : Prm n := by
  by_cases hp : Prm n
  · exact hp
  · obtain ⟨r, hr, hd, hs⟩ := small_factor h1 hp
    have h2 := hr.1
    have h3 := Nat.le_of_dvd (by omega) (h r hr hd)
    have : f * f ≤ r * r := Nat.mul_le_mul (by omega) (by omega)
    omega

theorem pock2 {n s t m k a b : Nat} (hs : Prm s) (ht : Prm t) (hst : Nat.gcd s t = 1) (h1 : 1 < n) (hm : n - 1 = s * m) (hk : n - 1 = t * k) (hf : n < s * t * (s * t))
    (a1 : a ^ (n - 1) % n = 1) (a2 : Nat.gcd (a ^ m % n + n - 1) n = 1) (b1 : b ^ (n - 1) % n = 1) (b2 : Nat.gcd (b ^ k % n + n - 1) n = 1) : Prm n :=
  pock h1 hf fun _ hr hd => Nat.Coprime.mul_dvd_of_dvd_of_dvd hst (pock_step hs hm a1 a2 hr hd h1) (pock_step ht hk b1 b2 hr hd h1)

/-- All that Pocklington's test asks of numbers, in one test. -/
def chk (n s t m k a f : Nat) : Bool :=
  Nat.ble 2 n && Nat.beq (n - 1) (s * m) && Nat.beq (n - 1) (t * k) && Nat.ble (n + 1) (s * t * (s * t)) && Nat.beq (Nat.gcd s t) 1 && Nat.ble (n + 1) (2 ^ f) && Nat.beq (pmod a n f (n - 1)) 1 &&
    Nat.beq (Nat.gcd (pmod a n f m + n - 1) n) 1 && Nat.beq (Nat.gcd (pmod a n f k + n - 1) n) 1

theorem prm_chk {n s t m k a f : Nat} (hs : Prm s) (ht : Prm t) (h : chk n s t m k a f = true) : Prm n := by
  simp only [chk, Bool.and_eq_true, Nat.beq_eq, Nat.ble_eq] at h
  obtain ⟨⟨⟨⟨⟨⟨⟨⟨h1, h2⟩, h3⟩, h4⟩, h5⟩, h6⟩, h7⟩, h8⟩, h9⟩ := h
  have hs1 := hs.1; have ht1 := ht.1
  have b1 : m ≤ n - 1 := by rw [h2]; exact Nat.le_mul_of_pos_left m (by omega)
  have b2 : k ≤ n - 1 := by rw [h3]; exact Nat.le_mul_of_pos_left k (by omega)
  rw [pmod_eq a n f _ (by omega)] at h7 h8 h9
  exact pock2 hs ht h5 (by omega) h2 h3 (by omega) h7 h8 h7 h9

/-- The same for one prime. -/
def chkOne (n s m a f : Nat) : Bool := Nat.ble 2 n && Nat.ble (n + 1) (s * s) && Nat.beq (n - 1) (s * m) && Nat.ble (n + 1) (2 ^ f) && Nat.beq (pmod a n f (n - 1)) 1 && Nat.beq (Nat.gcd (pmod a n f m + n - 1) n) 1

theorem prm_one {n s m a f : Nat} (hs : Prm s) (h : chkOne n s m a f = true) : Prm n := by
  simp only [chkOne, Bool.and_eq_true, Nat.beq_eq, Nat.ble_eq] at h
  obtain ⟨⟨⟨⟨⟨h1, h2⟩, h3⟩, h4⟩, h5⟩, h6⟩ := h
  have hs1 := hs.1
  have b1 : m ≤ n - 1 := by rw [h3]; exact Nat.le_mul_of_pos_left m (by omega)
  rw [pmod_eq a n f _ (by omega)] at h5 h6
  exact pock (by omega) (f := s) (by omega) (fun r hr hd => pock_step hs h3 h5 h6 hr hd (by omega))

theorem prm127 : Prm 127 := prm_small 127 10 (by decide) (by decide) (by decide)
theorem prm4153 : Prm 4153 := prm_small 4153 63 (by decide) (by decide +kernel) (by decide)
theorem prm75707 : Prm 75707 := prm_small 75707 274 (by decide) (by decide +kernel) (by decide)
theorem prm430751 : Prm 430751 := prm_small 430751 655 (by decide) (by decide +kernel) (by decide)
theorem prm8574133 : Prm 8574133 := prm_small 8574133 2927 (by decide) (by decide +kernel) (by decide)
theorem prmS : Prm 31757755568855353 := prm_chk prm430751 prm4153 (m := 73726481352) (k := 7646943310584) (a := 2) (f := 56) (by decide +kernel)
theorem prmT : Prm 1919519569386763 := prm_chk prm8574133 prm127 (m := 223873314) (k := 15114327318006) (a := 2) (f := 52) (by decide +kernel)
theorem prmR : Prm 75445702479781427272750846543864801 := prm_chk prmT prm75707 (m := 39304471641247389600) (k := 996548568557483816196003626400) (a := 2) (f := 117) (by decide +kernel)
theorem prmQ : Prm 74058212732561358302231226437062788676166966415465897661863160754340907 := prm_chk prmR prmS (m := 981609426360740691344999861639072106) (k := 2331972502653487852620185443007392165117953542933313402) (a := 2) (f := 237) (by decide +kernel)
theorem prmP : Prm 57896044618658097711785492504343953926634992332820282019728792003956564819949 :=
  prm_one prmQ (m := 781764) (a := 2) (f := 256) (by decide +kernel)
end Go.Proofs.Ytpogmflgmpifoaa

namespace Go.Proofs.Ytpogmflgmpifoaa
open Go.RowKit

/-- The four words of a number. -/
def dig (n : Nat) : Nat → Nat := four (n % 18446744073709551616) (n / 18446744073709551616 % 18446744073709551616) (n / 340282366920938463463374607431768211456 % 18446744073709551616) (n / 6277101735386680763835789423207666416102355444464034512896 % 18446744073709551616)

theorem dig_ok {n : Nat} (h : n < pp) : Ok (dig n) ∧ nm (dig n) = n := by
  have e : nm (dig n) = n := by
    simp only [nm, dig, four]
    unfold num pp at *
    omega
  refine ⟨⟨fun i => ?_, by rw [e]; exact h⟩, e⟩
  match i with
  | 0 => exact Nat.mod_lt _ (by omega)
  | 1 => exact Nat.mod_lt _ (by omega)
  | 2 => exact Nat.mod_lt _ (by omega)
  | _ + 3 => exact Nat.mod_lt _ (by omega)

theorem el_dig {z : Nat → Nat} (hz : Ok z) {n : Nat} (e : nm z = n) : el z = el (dig n) := by
  subst e
  have h := dig_ok hz.2
  obtain ⟨a, b, c, d⟩ := (beq_words hz.1 h.1.1).1 h.2.symm
  rw [el, el, a, b, c, d]

theorem pp_pos : 0 < pp := by unfold pp; omega
theorem mod_pp (n : Nat) : n % pp < pp := Nat.mod_lt _ pp_pos

theorem plus_d {m n : Nat} (hm : m < pp) (hn : n < pp) (w : World) : Calls Try.prog 60 #[el (dig m), el (dig n)] w fun e w' => e = .returned (el (dig ((m + n) % pp))) ∧ Below w.heap.size w w' := by
  obtain ⟨z, hz, e, c⟩ := plus_any _ _ (dig_ok hm).1 (dig_ok hn).1
  have e := e.out; rw [(dig_ok hm).2, (dig_ok hn).2] at e
  rw [← el_dig hz e]; exact c w
theorem minus_d {m n : Nat} (hm : m < pp) (hn : n < pp) (w : World) : Calls Try.prog 29 #[el (dig m), el (dig n)] w fun e w' => e = .returned (el (dig ((m + (pp - n)) % pp))) ∧ Below w.heap.size w w' := by
  obtain ⟨z, hz, e, c⟩ := minus_any _ _ (dig_ok hm).1 (dig_ok hn).1
  have e := e.out; rw [(dig_ok hm).2, (dig_ok hn).2] at e
  rw [← el_dig hz e]; exact c w
theorem times_d {m n : Nat} (hm : m < pp) (hn : n < pp) (w : World) : Calls Try.prog 58 #[el (dig m), el (dig n)] w fun e w' => e = .returned (el (dig (m * n % pp))) ∧ Below w.heap.size w w' := by
  obtain ⟨z, hz, e, c⟩ := times_el _ _ (dig_ok hm).1 (dig_ok hn).1
  have e := e.out; rw [(dig_ok hm).2, (dig_ok hn).2] at e
  rw [← el_dig hz e]; exact c w
theorem is_d {m n : Nat} (hm : m < pp) (hn : n < pp) (w : World) : Calls Try.prog 28 #[el (dig m), el (dig n)] w fun e w' => e = .returned (.bool (decide (m = n))) ∧ Below w.heap.size w w' := by
  have := is_any _ _ (dig_ok hm).1 (dig_ok hn).1 w
  rwa [(dig_ok hm).2, (dig_ok hn).2] at this
theorem even_d {m : Nat} (hm : m < pp) (w : World) : Calls Try.prog 47 #[el (dig m)] w fun e w' => e = .returned (.bool (decide (m % 2 = 0))) ∧ Below w.heap.size w w' := by
  have := even_any _ (dig_ok hm).1 w
  rwa [(dig_ok hm).2] at this
/-- The number that 32 bytes tell, as an element. -/
def ofb (b : Nat → Nat) : Nat := nb b 32 % 57896044618658097711785492504343953926634992332820282019728792003956564819968 % pp
theorem of_d {b : Nat → Nat} (hb : ∀ i, b i < 256) (w : World) : Calls Try.prog 25 #[.agg (arr 32 fun i => .int .u8 (b i))] w fun e w' => e = .returned (el (dig (ofb b))) ∧ Below w.heap.size w w' := by
  obtain ⟨z, hz, e, c⟩ := of_any b hb
  rw [← el_dig hz (n := ofb b) e.out]; exact c w
theorem int_pos_d {m : Nat} (h : m < 9223372036854775808) (w : World) : Calls Try.prog 49 #[.int .i64 (m : Int)] w fun e w' => e = .returned (el (dig m)) ∧ Below w.heap.size w w' := by
  rw [← el_dig (ok_four m (by omega)).1 (ok_four m (by omega)).2]; exact int_pos m h w
theorem int_neg_d {m : Nat} (h1 : 1 ≤ m) (h2 : m ≤ 9223372036854775808) (w : World) : Calls Try.prog 49 #[.int .i64 (-(m : Int))] w fun e w' => e = .returned (el (dig (pp - m))) ∧ Below w.heap.size w w' := by
  obtain ⟨z, hz, e, c⟩ := int_neg m h1 h2
  have e := e.out; rw [Nat.mod_eq_of_lt (by have := pp_pos; omega)] at e
  rw [← el_dig hz e]; exact c w

/-- The inverse's number. -/
theorem inverse_d {m : Nat} (hm : m < pp) : ∃ k : Nat, Hid (k = 57896044618658097711785492504343953926634992332820282019728792003956564819947) ∧ ∀ w, Calls Try.prog 72 #[el (dig m)] w fun e w' => e = .returned (el (dig (m ^ k % pp))) ∧ Below w.heap.size w w' := by
  obtain ⟨k, hk⟩ : ∃ k : Nat, Hid (k = 57896044618658097711785492504343953926634992332820282019728792003956564819947) := ⟨_, hide1 rfl⟩
  refine ⟨k, hk, fun w => ?_⟩
  refine (inverse_any _ (dig_ok hm).1 w).mono ?_
  rintro e w' ⟨z, k', hz, hk', ez, rfl, hb⟩
  obtain rfl : k = k' := hk.out.trans hk'.out.symm
  have ez := ez.out
  rw [(dig_ok hm).2] at ez
  exact ⟨by rw [el_dig hz ez], hb⟩

set_option maxRecDepth 100000 in
set_option maxHeartbeats 2000000 in
theorem over_d {m n : Nat} (hm : m < pp) (hn : n < pp) : ∃ k : Nat, Hid (k = 57896044618658097711785492504343953926634992332820282019728792003956564819947) ∧ ∀ w, Calls Try.prog 50 #[el (dig m), el (dig n)] w fun e w' => e = .returned (el (dig (m * (n ^ k % pp) % pp))) ∧ Below w.heap.size w w' := by
  obtain ⟨k, hk, c1⟩ := inverse_d hn
  refine ⟨k, hk, fun w => ?_⟩
  have c2 := fun w => times_d hm (mod_pp (n ^ k)) w
  clear hk
  generalize n ^ k % pp = r at *
  generalize m * r % pp = q at *
  have hA1 := @aft_cell; have hA2 := @aft_frozen; have hA3 := @aft_set; have hA4 := @aft_aft; have hA5 := @aft_drew_in
  go_enter Try.func50, Try.ntmps50
  go_wp2_with fail
  go_region_with (first
    | (go_at_call 72; refine (c1 _).mono ?_; rintro e w1 ⟨rfl, hb1⟩; obtain ⟨g1, rfl⟩ := aft_of hb1; clear hb1)
    | (go_at_call 58; refine (c2 _).mono ?_; rintro e w1 ⟨rfl, hb1⟩; obtain ⟨g2, rfl⟩ := aft_of hb1; clear hb1))
  all_goals go_wp2
  all_goals exact bodyPost_ret (v := el (dig q)) (by simp [results, Try.results50, go_sem, hA1]) rfl ⟨rfl, bnext (below3 _ _ _ _) (aft_below _ _)⟩
end Go.Proofs.Ytpogmflgmpifoaa

namespace Go.Proofs.Ytpogmflgmpifoaa
open Go.RowKit

theorem key_d {m : Nat} (hm : m < pp) (w : World) : Calls Try.prog 26 #[el (dig m)] w fun e w' => e = .returned (.agg (arr 32 fun i => .int .u8 (byt (dig m) i))) ∧ Below w.heap.size w w' :=
  key_any _ (dig_ok hm).1 w

/-- A number times its power by the prime less 2. -/
theorem inv_one {m k : Nat} (hm : m < pp) (h0 : m ≠ 0) (hk : k = 57896044618658097711785492504343953926634992332820282019728792003956564819947) : m * (m ^ k % pp) % pp = 1 := by
  have hp : Prm pp := prmP
  have hd : ¬ pp ∣ m := fun h => by have := Nat.le_of_dvd (by omega) h; omega
  have h := fermat hp m hd
  have e : pp - 1 = k + 1 := by rw [hk]; rfl
  rw [e, Nat.pow_succ, Nat.mul_comm] at h
  rw [Nat.mul_mod_mod]; exact h

theorem byt_one : ∀ i, i < 32 → byt (dig 1) i = if i = 0 then 1 else 0 := by decide +kernel

theorem one_get (i : Nat) (hi : i < 32) : (#[.int .u8 1, .int .u8 0, .int .u8 0, .int .u8 0, .int .u8 0, .int .u8 0, .int .u8 0, .int .u8 0, .int .u8 0, .int .u8 0, .int .u8 0, .int .u8 0, .int .u8 0, .int .u8 0, .int .u8 0, .int .u8 0, .int .u8 0, .int .u8 0, .int .u8 0, .int .u8 0, .int .u8 0, .int .u8 0, .int .u8 0, .int .u8 0, .int .u8 0, .int .u8 0, .int .u8 0, .int .u8 0, .int .u8 0, .int .u8 0, .int .u8 0, .int .u8 0] : Array Value)[i]? = some (.int .u8 (if i = 0 then 1 else 0)) := by
  have e : (#[.int .u8 1, .int .u8 0, .int .u8 0, .int .u8 0, .int .u8 0, .int .u8 0, .int .u8 0, .int .u8 0, .int .u8 0, .int .u8 0, .int .u8 0, .int .u8 0, .int .u8 0, .int .u8 0, .int .u8 0, .int .u8 0, .int .u8 0, .int .u8 0, .int .u8 0, .int .u8 0, .int .u8 0, .int .u8 0, .int .u8 0, .int .u8 0, .int .u8 0, .int .u8 0, .int .u8 0, .int .u8 0, .int .u8 0, .int .u8 0, .int .u8 0, .int .u8 0] : Array Value) = ⟨.int .u8 1 :: List.replicate 31 (.int .u8 0)⟩ := rfl
  rw [e]
  cases i with
  | zero => rfl
  | succ i =>
    rw [← Array.getElem?_toList, List.getElem?_cons_succ, List.getElem?_replicate, if_pos (by omega), if_neg (by omega)]

set_option maxRecDepth 100000 in
theorem eq_one (w : World) : (Op.equalIn 10000 23 (.agg (arr 32 fun i => .int .u8 (byt (dig 1) i))) (.agg #[.int .u8 1, .int .u8 0, .int .u8 0, .int .u8 0, .int .u8 0, .int .u8 0, .int .u8 0, .int .u8 0, .int .u8 0, .int .u8 0, .int .u8 0, .int .u8 0, .int .u8 0, .int .u8 0, .int .u8 0, .int .u8 0, .int .u8 0, .int .u8 0, .int .u8 0, .int .u8 0, .int .u8 0, .int .u8 0, .int .u8 0, .int .u8 0, .int .u8 0, .int .u8 0, .int .u8 0, .int .u8 0, .int .u8 0, .int .u8 0, .int .u8 0, .int .u8 0])).run Try.prog w = .ok true w := by
  rw [eq_ints (e := 5) (n := 32) (k := .u8) (k' := .u8) Try.underlying23 (inf := _) rfl (by kernel_rfl) Try.underlying5 (fun _ => by kernel_rfl) _ _ (fun i => (byt (dig 1) i : Int)) (fun i => if i = 0 then 1 else 0)
    (fun i hi => arr_get _ _ _ hi) (fun i hi => one_get i hi) w]
  rw [decide_eq_true]
  intro i hi
  rw [byt_one i hi]
  split <;> rfl

end Go.Proofs.Ytpogmflgmpifoaa

namespace Go.Proofs.Ytpogmflgmpifoaa
open Go.RowKit

/-- An element's cells, as one name. -/
def ce (n : Nat) : Array Value := cs (dig n)
theorem ldE {n : Nat} (t0 : TypeId) (w : World) (q : Nat) (h : w.heap[q]? = some (.cells (ce n) t0 (0, 0))) : (Instr.loadAt 29 (.pointer (some ⟨q, 0, none⟩))).run Try.prog w = .ok (el (dig n)) w :=
  ld_row (c := ce n) Try.underlying29 rfl (by kernel_rfl) w q h
theorem stE {n : Nat} {c : Array Value} (t0 : TypeId) (hc : c.size = 4) (w : World) (q : Nat) (h : w.heap[q]? = some (.cells c t0 (0, 0))) : (Instr.storeAt 29 (.pointer (some ⟨q, 0, none⟩)) (el (dig n))).run Try.prog w = .ok () (w.setRow q (ce n)) :=
  st_row (n := ce n) (by kernel_rfl) hc (cs_one (dig n)) w q h
theorem alE (w : World) : (Instr.alloc 29 true (.tuple #[])).run Try.prog w = .ok (.pointer (some ⟨w.heap.size, 0, none⟩)) (w.alloc (.cells (ce 0) 29)) := by
  simp [Instr.alloc, go_sem]
  rfl
theorem bxE {n : Nat} (w : World) : (Instr.box 29 (el (dig n))).run Try.prog w = .ok (.pointer (some ⟨w.heap.size, 0, none⟩)) (w.alloc (.cells (ce n) 29)) := bx_agg (c := ce n) w
theorem ce_size (n : Nat) : (ce n).size = 4 := rfl
theorem bdE (w : World) : (Instr.build 29 #[]).run Try.prog w = .ok (el (dig 0)) w := by kernel_rfl

theorem is_t {m n : Nat} (hm : m < pp) (hn : n < pp) (h : m = n) (w : World) : Calls Try.prog 28 #[el (dig m), el (dig n)] w fun e w' => e = .returned (.bool true) ∧ Below w.heap.size w w' := by
  have := is_d hm hn w
  rwa [decide_eq_true h] at this
theorem is_f {m n : Nat} (hm : m < pp) (hn : n < pp) (h : m ≠ n) (w : World) : Calls Try.prog 28 #[el (dig m), el (dig n)] w fun e w' => e = .returned (.bool false) ∧ Below w.heap.size w w' := by
  have := is_d hm hn w
  rwa [decide_eq_false h] at this
theorem even_b {m : Nat} {b : Bool} (hm : m < pp) (h : decide (m % 2 = 0) = b) (w : World) : Calls Try.prog 47 #[el (dig m)] w fun e w' => e = .returned (.bool b) ∧ Below w.heap.size w w' := by
  have := even_d hm w
  rwa [h] at this
theorem of_k {b : Nat → Nat} (hb : ∀ i, b i < 256) (w : World) : Calls Try.prog 25 #[.agg (ck b)] w fun e w' => e = .returned (el (dig (ofb b))) ∧ Below w.heap.size w w' := of_d hb w
theorem int_lit {m : Nat} (h : m < 9223372036854775808) (w : World) : Calls Try.prog 49 #[.int .i64 (m : Int)] w fun e w' => e = .returned (el (dig m)) ∧ Below w.heap.size w w' := int_pos_d h w
theorem ofb_lt (b : Nat → Nat) : ofb b < pp := mod_pp _

end Go.Proofs.Ytpogmflgmpifoaa

namespace Go.Proofs.Ytpogmflgmpifoaa
open Go.RowKit

/-- Cells of several elements, one behind the other. -/
def ces (l : List Nat) : Array Value := (l.flatMap fun n => (cs (dig n)).toList).toArray
theorem ces_size (l : List Nat) : (ces l).size = 4 * l.length := by
  unfold ces
  simp only [List.size_toArray]
  induction l with
  | nil => rfl
  | cons n l ih => rw [List.flatMap_cons, List.length_append, ih]; simp; omega
theorem ces_get : ∀ (l : List Nat) (k n j : Nat), l[k]? = some n → j < 4 → (ces l)[4 * k + j]? = (cs (dig n))[j]? := by
  intro l
  induction l with
  | nil => intro k n j h; simp at h
  | cons m l ih =>
    intro k n j h hj
    unfold ces at *
    simp only [List.getElem?_toArray, List.flatMap_cons]
    cases k with
    | zero =>
      simp at h; subst h
      rw [List.getElem?_append_left (by simp; omega)]
      simp
    | succ k =>
      rw [List.getElem?_append_right (by simp; omega)]
      have := ih k n j (by simpa using h) hj
      simp only [List.getElem?_toArray] at this
      rw [← this]
      congr 1
      simp; omega
theorem ces_one (l : List Nat) : (ces l).all (·.oneCell') = true := by
  rw [Array.all_eq_true_iff_forall_mem]
  intro v hv
  unfold ces at hv
  simp only [List.mem_toArray, List.mem_flatMap] at hv
  obtain ⟨n, _, h⟩ := hv
  have := Array.all_eq_true_iff_forall_mem.1 (cs_one (dig n)) v (by simpa using h)
  exact this
theorem ld_ces {l : List Nat} {k n : Nat} (t0 : TypeId) (hk : l[k]? = some n) (w : World) (q : Nat) (h : w.heap[q]? = some (.cells (ces l) t0 (0, 0))) : (Instr.loadAt 29 (.pointer (some ⟨q, 4 * k, none⟩))).run Try.prog w = .ok (el (dig n)) w := by
  have c0 : w.cell? ⟨q, 4 * k, none⟩ = some (.int .u64 (dig n 0)) := by rw [cell_of_row _ _ _ _ _ _ h]; exact ces_get l k n 0 hk (by omega)
  have c1 : w.cell? ⟨q, 4 * k + 1, none⟩ = some (.int .u64 (dig n 1)) := by rw [cell_of_row _ _ _ _ _ _ h]; exact ces_get l k n 1 hk (by omega)
  have c2 : w.cell? ⟨q, 4 * k + 2, none⟩ = some (.int .u64 (dig n 2)) := by rw [cell_of_row _ _ _ _ _ _ h]; exact ces_get l k n 2 hk (by omega)
  have c3 : w.cell? ⟨q, 4 * k + 3, none⟩ = some (.int .u64 (dig n 3)) := by rw [cell_of_row _ _ _ _ _ _ h]; exact ces_get l k n 3 hk (by omega)
  simp [Instr.loadAt, Instr.sureAddr, go_sem, c0, c1, c2, c3]
end Go.Proofs.Ytpogmflgmpifoaa

namespace Go.Proofs.Ytpogmflgmpifoaa
open Go.RowKit

theorem cs_dig {z : Nat → Nat} (hz : Ok z) {n : Nat} (e : nm z = n) : cs z = cs (dig n) := by
  have := el_dig hz e
  simpa [el, cs] using this

/-- What grows a power, by numbers. -/
theorem grow_d (t b : Nat) (ht : t < 1000) {x n : Nat} (hx : x < pp) (hn : n < pp) (t0 : TypeId) (w : World) (hrow : w.heap[b]? = some (.cells (ce x) t0 (0, 0))) :
    Calls Try.prog 87 #[.int .i64 t, el (dig n), .pointer (some ⟨b, 0, none⟩)] w fun e w' => e = .returned (el (dig (x ^ (2 ^ t) * n % pp))) ∧ Mod b w w' ∧ w'.heap[b]? = some (.cells (ce (x ^ (2 ^ t) * n % pp)) t0 (0, 0)) := by
  refine (grow_any t b ht _ _ (dig_ok hx).1 (dig_ok hn).1 t0 w hrow).mono ?_
  rintro e w' ⟨z, hz, ez, rfl, hm, hr⟩
  have ez := ez.out
  rw [(dig_ok hx).2, (dig_ok hn).2] at ez
  refine ⟨by rw [el_dig hz ez], hm, ?_⟩
  rw [cs_dig hz ez] at hr; exact hr

theorem ones_d {x : Nat} (hx : x < pp) : ∃ E : Nat, Hid (E = 1809251394333065553493296640760748560207343510400633813116524750123642650623) ∧ ∀ w,
    Calls Try.prog 83 #[el (dig x)] w fun e w' => ∃ b : Nat, e = .returned (.func (.func 87) #[] #[.pointer (some ⟨b, 0, none⟩)]) ∧ w.heap.size ≤ b ∧ Below w.heap.size w w' ∧ w'.heap[b]? = some (.cells (ce (x ^ E % pp)) 29 (0, 0)) := by
  obtain ⟨E, hE⟩ : ∃ E : Nat, Hid (E = 1809251394333065553493296640760748560207343510400633813116524750123642650623) := ⟨_, hide1 rfl⟩
  refine ⟨E, hE, fun w => ?_⟩
  refine (ones_any _ (dig_ok hx).1 w).mono ?_
  rintro e w' ⟨z, E', b, hz, hE', ez, rfl, hb, hw, hr⟩
  obtain rfl : E = E' := hE.out.trans hE'.out.symm
  have ez := ez.out
  rw [(dig_ok hx).2] at ez
  refine ⟨b, rfl, hb, hw, ?_⟩
  rw [cs_dig hz ez] at hr; exact hr

/-- A root of -1. -/
def iRt : Nat := 19681161376707505956807079304988542015446066515923890162744021073123829784752

theorem iroot_d (w : World) : Calls Try.prog 84 #[] w fun e w' => e = .returned (el (dig iRt)) ∧ Below w.heap.size w w' := by
  have h : el (dig iRt) = el (four 14190309331451158704 3405592160176694392 3120150775007532967 3135389899092516619) := by
    have h0 : dig iRt 0 = 14190309331451158704 := by decide +kernel
    have h1 : dig iRt 1 = 3405592160176694392 := by decide +kernel
    have h2 : dig iRt 2 = 3120150775007532967 := by decide +kernel
    have h3 : dig iRt 3 = 3135389899092516619 := by decide +kernel
    simp only [el, four, h0, h1, h2, h3]
  rw [h]
  go_enter Try.func84, Try.ntmps84
  go_wp2_with fail
  exact bodyPost_ret (v := el (four 14190309331451158704 3405592160176694392 3120150775007532967 3135389899092516619)) (by simp [results, Try.results84, go_sem, four]) rfl ⟨rfl, below1 _ _⟩
end Go.Proofs.Ytpogmflgmpifoaa

namespace Go.Proofs.Ytpogmflgmpifoaa
open Go.RowKit

theorem iRt_lt : iRt < pp := by decide +kernel
/-- The root, out of the power. -/
def aRt (R m : Nat) : Nat := if R * R % pp = m then R else R * iRt % pp
theorem aRt_lt {R m : Nat} (h : R < pp) : aRt R m < pp := by unfold aRt; split <;> first | exact h | exact mod_pp _
theorem aRt_t {R m : Nat} (h : R * R % pp = m) : aRt R m = R := if_pos h
theorem aRt_f {R m : Nat} (h : ¬ R * R % pp = m) : aRt R m = R * iRt % pp := if_neg h
theorem root_exp {m E k R : Nat} (hE : E = 1809251394333065553493296640760748560207343510400633813116524750123642650623) (hk : k = 7237005577332262213973186563042994240829374041602535252466099000494570602494) (hR : R = (m ^ E % pp) ^ 2 ^ 2 * (m * m % pp) % pp) : R = m ^ k % pp := by
  rw [hR, Nat.mul_mod_mod, ← Nat.mod_mul_mod, ← Nat.pow_mod, Nat.mod_mul_mod, ← Nat.pow_mul]
  have : m ^ (E * 2 ^ 2) * (m * m) = m ^ k := by
    rw [← Nat.pow_two, ← Nat.pow_add]
    congr 1
    rw [hE, hk]
  rw [this]

set_option maxHeartbeats 4000000 in
theorem anyRoot_d {m : Nat} (hm : m < pp) : ∃ k : Nat, Hid (k = 7237005577332262213973186563042994240829374041602535252466099000494570602494) ∧ ∀ w, Calls Try.prog 79 #[el (dig m)] w fun e w' => e = .returned (.tuple #[el (dig (aRt (m ^ k % pp) m)), .bool (decide (aRt (m ^ k % pp) m * aRt (m ^ k % pp) m % pp = m))]) ∧ Below w.heap.size w w' := by
  obtain ⟨E, hE, c1⟩ := ones_d hm
  have c2 := fun w => times_d hm hm w
  obtain ⟨k, hk⟩ : ∃ k : Nat, Hid (k = 7237005577332262213973186563042994240829374041602535252466099000494570602494) := ⟨_, hide1 rfl⟩
  obtain ⟨R, hR⟩ : ∃ R, Hid (R = (m ^ E % pp) ^ 2 ^ 2 * (m * m % pp) % pp) := ⟨_, hide1 rfl⟩
  have hRl : R < pp := by rw [hR.out]; exact mod_pp _
  have c48 := iroot_d
  have hi2l := iRt_lt
  have hat : ∀ R m, ¬ R * R % pp = m → aRt R m = R * iRt % pp := fun R m h => aRt_f h
  generalize iRt = i2 at c48 hi2l hat
  refine ⟨k, hk, fun W0 => ?_⟩
  rw [← root_exp hE.out hk.out hR.out]
  refine sym_enter Try.func79 Try.ntmps79 rfl [.inl (el (dig m)), .inl undef, .inl undef, .inl undef, .inl undef, .inl undef, .inl undef, .inl undef, .inl undef, .inl undef, .inl undef, .inl undef, .inl undef, .inl undef, .inl undef, .inl undef, .inl undef, .inl undef, .inl undef, .inl undef, .inl undef, .inl undef, .inl undef, .inl undef, .inl undef, .inl undef, .inl undef, .inl undef] (by kernel_rfl) (by kernel_rfl) ?_
  intro β a h; replace h := h.o0
  refine sym_seq ?_
  refine St.rg h [(1, .inr (0, pt 0)), (2, .inr (1, pt 0)), (3, .inl (.bool false))] [(ce m, 29), (ce 0, 29)] [] [eN 0, eN 1] ?_ ?_
  · exact oc (k_bx 0 (el (dig m)) (bxE (n := m)) rfl rfl) <|
    oc (k_al 1 alE rfl rfl) <|
    oz (k_mv (.inr rfl) rfl) <|
    ok_nil
  clear h; intro β a w h
  replace h := St.cs h (s' := [.inl (el (dig m)), .inr (0, pt 0), .inr (1, pt 0), .inl (.bool false), uu, uu, uu, uu, uu, uu, uu, uu, uu, uu, uu, uu, uu, uu, uu, uu, uu, uu, uu, uu, uu, uu, uu, uu]) (m' := [(ce m, 29), (ce 0, 29)]) (by kernel_rfl) (by kernel_rfl)
  refine sym_then ?_
  have ra := h.row 0 _ rfl
  have rr := h.row 1 _ rfl
  have hw := h.bel.below
  have o0 := Nat.le_of_not_lt (h.old 0 (by simp))
  have o1 := Nat.le_of_not_lt (h.old 1 (by simp))
  have n01 : β 0 ≠ β 1 := fun e => by have := h.inj 0 1 (by simp) (by simp) e; omega
  obtain rfl : a = { tmps := #[el (dig m), .pointer (some ⟨β 0, 0, none⟩), .pointer (some ⟨β 1, 0, none⟩), .bool false, undef, undef, undef, undef, undef, undef, undef, undef, undef, undef, undef, undef, undef, undef, undef, undef, undef, undef, undef, undef, undef, undef, undef, undef], defers := [] } := h.tm
  clear h
  refine seq_gen fun QQ hQQ => ?_
  go_wp2_with (refine wpList_load_agg rfl 29 (.tmp 1) rfl (β 0) _ _ rfl Try.underlying29 rfl (by kernel_rfl) ra ?_)
  refine (c1 _).mono ?_
  rintro e u1 ⟨b, rfl, hb, hb1, rb⟩
  have nb0 : β 0 ≠ b := by have := row_lt ra; omega
  have nb1 : β 1 ≠ b := by have := row_lt rr; omega
  have obb := Nat.le_trans hw.size hb
  replace ra := row_below ra hb1
  replace rr := row_below rr hb1
  replace hw := bnext hw hb1
  clear c1 hb1 hb
  go_wp2_with fail
  refine hQQ.out _ _ ?_
  clear hQQ QQ
  refine seq_gen fun QQ hQQ => ?_
  go_wp2_with (refine wpList_load_agg rfl 29 (.tmp 1) rfl (β 0) _ _ rfl Try.underlying29 rfl (by kernel_rfl) ra ?_)
  refine (c2 _).mono ?_
  rintro e u2 ⟨rfl, hb2⟩
  replace ra := row_below ra hb2
  replace rr := row_below rr hb2
  replace rb := row_below rb hb2
  replace hw := bnext hw hb2
  clear c2 hb2
  go_wp2_with fail
  refine (grow_d 2 b (by omega) (mod_pp _) (mod_pp _) _ _ rb).mono ?_
  rintro e u3 ⟨rfl, hmo, rb3⟩
  rw [← hR.out]
  replace hw := below_mod hw hmo obb
  replace ra := row_mod ra hmo nb0
  replace rr := row_mod rr hmo nb1
  have l0 := row_lt ra
  have l1 := row_lt rr
  replace ra := row_up (o := .cells (ce R) 29) ra
  replace rr := row_up (o := .cells (ce R) 29) rr
  go_wp2_with fail
  refine hQQ.out _ _ ?_
  clear hQQ QQ rb rb3 hmo
  have ry := row_new u3 (.cells (ce R) 29)
  have m0 : β 0 ≠ u3.heap.size := by omega
  have m1 : β 1 ≠ u3.heap.size := by omega
  refine with_st (st3 (W0 := W0) (s := [.inl (el (dig m)), .inr (0, pt 0), .inr (1, pt 0), .inl (.bool false), .inl (.func (.func 87) #[] #[.pointer (some ⟨b, 0, none⟩)]), .inr (2, pt 0), .inl (el (dig m)), .inl (.func (.func 87) #[] #[.pointer (some ⟨b, 0, none⟩)]), .inl (.func (.func 87) #[] #[.pointer (some ⟨b, 0, none⟩)]), .inl (el (dig m)), .inl (el (dig m)), .inl (el (dig (m * m % pp))), .inl (el (dig R)), uu, uu, uu, uu, uu, uu, uu, uu, uu, uu, uu, uu, uu, uu, uu]) (p := β 0) (q := β 1) (r := u3.heap.size) (by kernel_rfl) (below_up hw (.cells (ce R) 29)) ra rr ry o0 o1 (by have := hw.size; omega) n01 m0 m1 (by kernel_rfl)) ?_
  intro a h; replace h := h.o0
  by_cases h1 : R * R % pp = m
  · rw [aRt_t h1]
    refine sym_seq ?_
    refine sym_seq ?_
    refine St.r0 h [(13, .inl (el (dig R))), (14, .inl (el (dig R))), (15, .inl (el (dig (R * R % pp)))), (16, .inl (el (dig m))), (17, .inl (.bool true)), (18, .inl (.bool false))] [eR 2, eR 2, nn, eR 0] ?_ ?_
    · exact oc (k_ld 2 0 (el (dig R)) (c := ce R) (ldE (n := R) 29) rfl rfl) <|
      oc (k_ld 2 0 (el (dig R)) (c := ce R) (ldE (n := R) 29) rfl rfl) <|
      oc (k_ca 58 #[el (dig R), el (dig R)] (el (dig (R * R % pp))) (fun w => times_d hRl hRl w) rfl rfl) <|
      oc (k_ld 0 0 (el (dig m)) (c := ce m) (ldE (n := m) 29) rfl rfl) <|
      oz (k_ca 28 #[el (dig (R * R % pp)), el (dig m)] (.bool true) (fun w => is_t (mod_pp _) hm h1 w) rfl rfl) <|
      oz (k_nt true rfl rfl) <|
      ok_nil
    clear h; intro β a w h
    refine sym_then ?_
    refine s_cf h ?_
    refine wp_skip ?_
    refine sym_then ?_
    refine sym_seq ?_
    refine St.rg h [(22, .inl (el (dig R))), (23, .inl (el (dig R))), (24, .inl (el (dig R))), (25, .inl (el (dig (R * R % pp)))), (26, .inl (el (dig m))), (27, .inl (.bool (decide ((R * R % pp) = m)))), (3, .inl (.bool (decide ((R * R % pp) = m))))] [] [(1, ce R)] [eR 2, eR 2, eR 2, nn, eR 0, nn, eS 1] ?_ ?_
    · exact oc (k_ld 2 0 (el (dig R)) (c := ce R) (ldE (n := R) 29) rfl rfl) <|
      oc (k_ld 2 0 (el (dig R)) (c := ce R) (ldE (n := R) 29) rfl rfl) <|
      oc (k_ld 2 0 (el (dig R)) (c := ce R) (ldE (n := R) 29) rfl rfl) <|
      oc (k_ca 58 #[el (dig R), el (dig R)] (el (dig (R * R % pp))) (fun w => times_d hRl hRl w) rfl rfl) <|
      oc (k_ld 0 0 (el (dig m)) (c := ce m) (ldE (n := m) 29) rfl rfl) <|
      oc (k_ca 28 #[el (dig (R * R % pp)), el (dig m)] (.bool (decide ((R * R % pp) = m))) (fun w => is_d (mod_pp _) hm w) rfl rfl) <|
      oc (k_st 1 0 (el (dig R)) (c := ce 0) (n := ce R) (stE (n := R) (c := ce 0) 29 (ce_size _)) rfl rfl) <|
      oz (k_mv (.inr rfl) rfl) <|
      ok_nil
    clear h; intro β a w h
    refine sym_then ?_
    refine wp_ret ?_
    exact s_r2 (b := 1) (t0 := 29) (c := ce R) h Try.results79 Try.underlying29 (fun hb => ⟨rfl, hb⟩)
  · rw [hat _ _ h1]
    refine sym_seq ?_
    refine sym_seq ?_
    refine St.r0 h [(13, .inl (el (dig R))), (14, .inl (el (dig R))), (15, .inl (el (dig (R * R % pp)))), (16, .inl (el (dig m))), (17, .inl (.bool false)), (18, .inl (.bool true))] [eR 2, eR 2, nn, eR 0] ?_ ?_
    · exact oc (k_ld 2 0 (el (dig R)) (c := ce R) (ldE (n := R) 29) rfl rfl) <|
      oc (k_ld 2 0 (el (dig R)) (c := ce R) (ldE (n := R) 29) rfl rfl) <|
      oc (k_ca 58 #[el (dig R), el (dig R)] (el (dig (R * R % pp))) (fun w => times_d hRl hRl w) rfl rfl) <|
      oc (k_ld 0 0 (el (dig m)) (c := ce m) (ldE (n := m) 29) rfl rfl) <|
      oz (k_ca 28 #[el (dig (R * R % pp)), el (dig m)] (.bool false) (fun w => is_f (mod_pp _) hm h1 w) rfl rfl) <|
      oz (k_nt false rfl rfl) <|
      ok_nil
    clear h; intro β a w h
    refine sym_then ?_
    refine s_ct h ?_
    refine St.rg h [(19, .inl (el (dig R))), (20, .inl (el (dig i2))), (21, .inl (el (dig (R * i2 % pp))))] [] [(2, ce (R * i2 % pp))] [eR 2, nn, nn, eS 2] ?_ ?_
    · exact oc (k_ld 2 0 (el (dig R)) (c := ce R) (ldE (n := R) 29) rfl rfl) <|
      oc (k_ca 84 #[] (el (dig i2)) (fun w => c48 w) rfl rfl) <|
      oc (k_ca 58 #[el (dig R), el (dig i2)] (el (dig (R * i2 % pp))) (fun w => times_d hRl hi2l w) rfl rfl) <|
      oc (k_st 2 0 (el (dig (R * i2 % pp))) (c := ce R) (n := ce (R * i2 % pp)) (stE (n := (R * i2 % pp)) (c := ce R) 29 (ce_size _)) rfl rfl) <|
      ok_nil
    clear h; intro β a w h
    refine sym_then ?_
    refine sym_seq ?_
    refine St.rg h [(22, .inl (el (dig (R * i2 % pp)))), (23, .inl (el (dig (R * i2 % pp)))), (24, .inl (el (dig (R * i2 % pp)))), (25, .inl (el (dig ((R * i2 % pp) * (R * i2 % pp) % pp)))), (26, .inl (el (dig m))), (27, .inl (.bool (decide (((R * i2 % pp) * (R * i2 % pp) % pp) = m)))), (3, .inl (.bool (decide (((R * i2 % pp) * (R * i2 % pp) % pp) = m))))] [] [(1, ce (R * i2 % pp))] [eR 2, eR 2, eR 2, nn, eR 0, nn, eS 1] ?_ ?_
    · exact oc (k_ld 2 0 (el (dig (R * i2 % pp))) (c := ce (R * i2 % pp)) (ldE (n := (R * i2 % pp)) 29) rfl rfl) <|
      oc (k_ld 2 0 (el (dig (R * i2 % pp))) (c := ce (R * i2 % pp)) (ldE (n := (R * i2 % pp)) 29) rfl rfl) <|
      oc (k_ld 2 0 (el (dig (R * i2 % pp))) (c := ce (R * i2 % pp)) (ldE (n := (R * i2 % pp)) 29) rfl rfl) <|
      oc (k_ca 58 #[el (dig (R * i2 % pp)), el (dig (R * i2 % pp))] (el (dig ((R * i2 % pp) * (R * i2 % pp) % pp))) (fun w => times_d (mod_pp _) (mod_pp _) w) rfl rfl) <|
      oc (k_ld 0 0 (el (dig m)) (c := ce m) (ldE (n := m) 29) rfl rfl) <|
      oc (k_ca 28 #[el (dig ((R * i2 % pp) * (R * i2 % pp) % pp)), el (dig m)] (.bool (decide (((R * i2 % pp) * (R * i2 % pp) % pp) = m))) (fun w => is_d (mod_pp _) hm w) rfl rfl) <|
      oc (k_st 1 0 (el (dig (R * i2 % pp))) (c := ce 0) (n := ce (R * i2 % pp)) (stE (n := (R * i2 % pp)) (c := ce 0) 29 (ce_size _)) rfl rfl) <|
      oz (k_mv (.inr rfl) rfl) <|
      ok_nil
    clear h; intro β a w h
    refine sym_then ?_
    refine wp_ret ?_
    exact s_r2 (b := 1) (t0 := 29) (c := ce (R * i2 % pp)) h Try.results79 Try.underlying29 (fun hb => ⟨rfl, hb⟩)
end Go.Proofs.Ytpogmflgmpifoaa

namespace Go.Proofs.Ytpogmflgmpifoaa

theorem pp_prm : Prm pp := prmP
theorem dvd_of_mod_eq {a b n : Nat} (h : a % n = b % n) : n ∣ a - b := Nat.dvd_of_mod_eq_zero (Nat.sub_mod_eq_zero_of_mod_eq h)

theorem sq_le {S m : Nat} (hS : S < pp) (hm : m ≤ S) (h : S * S % pp = m * m % pp) : S = m ∨ S + m = pp := by
  have h1 : pp ∣ S * S - m * m := dvd_of_mod_eq h
  rw [Nat.mul_self_sub_mul_self_eq] at h1
  rcases pp_prm.euclid h1 with h2 | h2
  · by_cases e : S + m = 0
    · left; omega
    · right
      have := Nat.le_of_dvd (by omega) h2
      obtain ⟨c, hc⟩ := h2
      have : c = 1 := by
        rcases Nat.lt_or_ge c 2 with h | h
        · match c, h with
          | 0, _ => simp at hc; omega
          | 1, _ => rfl
        · have : pp * 2 ≤ pp * c := Nat.mul_le_mul_left _ h
          omega
      subst this; omega
  · left
    by_cases e : S - m = 0
    · omega
    · have := Nat.le_of_dvd (by omega) h2; omega
theorem sq_eq {S m : Nat} (hS : S < pp) (hm : m < pp) (h : S * S % pp = m * m % pp) : S = m ∨ S + m = pp := by
  rcases Nat.le_total m S with h1 | h1
  · exact sq_le hS h1 h
  · rcases sq_le hm h1 h.symm with h2 | h2
    · exact Or.inl h2.symm
    · right; omega

theorem neg_mul {S : Nat} (hS : S < pp) : S * (pp - 1) % pp = (pp - S) % pp := by
  have h : S * (pp - 1) + S = S * pp := by
    have := pp_pos
    rw [← Nat.mul_succ, Nat.succ_eq_add_one, Nat.sub_add_cancel this]
  rcases Nat.eq_zero_or_pos S with h0 | h0
  · subst h0; simp
  · have h2 : S * (pp - 1) = (pp - S) + (S - 1) * pp := by
      have h3 : S * pp = (S - 1) * pp + pp := by
        rw [← Nat.succ_mul, Nat.succ_eq_add_one, Nat.sub_add_cancel h0]
      omega
    rw [h2, Nat.add_mul_mod_self_right]

theorem iRt_sq : iRt * iRt % pp = pp - 1 := by decide +kernel

theorem sq_neg {y : Nat} (hy : y ≤ pp) : (pp - y) * (pp - y) % pp = y * y % pp := by
  obtain ⟨d, hd⟩ : ∃ d, pp = y + d := ⟨pp - y, by omega⟩
  have e1 : (pp - y) * (pp - y) + y * pp = y * y + (pp - y) * pp := by
    have e2 : pp - y = d := by omega
    rw [e2, hd, Nat.mul_add, Nat.mul_add, Nat.mul_comm d y]
    omega
  have h1 : ((pp - y) * (pp - y) + y * pp) % pp = (pp - y) * (pp - y) % pp := Nat.add_mul_mod_self_right _ _ _
  have h2 : (y * y + (pp - y) * pp) % pp = y * y % pp := Nat.add_mul_mod_self_right _ _ _
  rw [← h1, e1, h2]

/-- Where the power is 1 there is a root. -/
theorem root_of_one {m h k R : Nat} (hm : m < pp) (hk : 4 * k = h + 2) (h1 : m ^ h % pp = 1) (hR : R = m ^ k % pp) : aRt R m * aRt R m % pp = m := by
  have hS : (R * R % pp) * (R * R % pp) % pp = m * m % pp := by
    have e : (R * R % pp) * (R * R % pp) % pp = m ^ (4 * k) % pp := by
      rw [← Nat.mul_mod, hR, ← Nat.mul_mod_mod, ← Nat.mod_mul_mod]
      have e1 : m ^ k % pp * (m ^ k % pp) % pp = m ^ (k + k) % pp := by rw [← Nat.mul_mod, Nat.pow_add]
      rw [e1, ← Nat.mul_mod, ← Nat.pow_add]
      congr 2
      omega
    rw [e, hk, Nat.pow_add, ← Nat.mod_mul_mod, h1, Nat.one_mul, Nat.pow_two]
  rcases sq_eq (mod_pp _) hm hS with h2 | h2
  · rw [aRt_t h2]; exact h2
  · by_cases h3 : R * R % pp = m
    · rw [aRt_t h3]; exact h3
    · rw [aRt_f h3]
      have e2 : R * iRt * (R * iRt) = R * R * (iRt * iRt) := by
        rw [Nat.mul_assoc, Nat.mul_assoc]; congr 1
        rw [← Nat.mul_assoc, ← Nat.mul_assoc, Nat.mul_comm iRt R]
      rw [← Nat.mul_mod, e2, ← Nat.mod_mul_mod, ← Nat.mul_mod_mod, iRt_sq, neg_mul (mod_pp _)]
      have : pp - R * R % pp = m := by omega
      rw [this, Nat.mod_eq_of_lt hm]
theorem one_of_root {m y h : Nat} (hh : 2 * h + 1 = pp) (h0 : m ≠ 0) (hy : y * y % pp = m) : m ^ h % pp = 1 := by
  have hd : ¬ pp ∣ y := by
    rintro ⟨c, rfl⟩
    rw [Nat.mul_assoc, Nat.mul_mod_right] at hy
    exact h0 hy.symm
  have hf := fermat pp_prm y hd
  rw [← hy, ← Nat.pow_mod, ← Nat.pow_two, ← Nat.pow_mul]
  rw [show 2 * h = pp - 1 by omega]; exact hf
theorem pm_one {m h : Nat} (hh : 2 * h + 1 = pp) (hm : m < pp) (h0 : m ≠ 0) : m ^ h % pp = 1 ∨ m ^ h % pp = pp - 1 := by
  have hd : ¬ pp ∣ m := fun hd => by have := Nat.le_of_dvd (by omega) hd; omega
  have hf := fermat pp_prm m hd
  have hS : (m ^ h % pp) * (m ^ h % pp) % pp = 1 * 1 % pp := by
    rw [← Nat.mul_mod, ← Nat.pow_add, show h + h = pp - 1 by omega, hf]; rfl
  have h1p : 1 < pp := by decide +kernel
  rcases sq_eq (mod_pp _) h1p hS with h1 | h1
  · exact Or.inl h1
  · right; omega
theorem mul_pow_mod {a b h : Nat} : (a * b % pp) ^ h % pp = (a ^ h % pp) * (b ^ h % pp) % pp := by
  rw [← Nat.pow_mod, Nat.mul_pow, ← Nat.mul_mod]
theorem mul_ne {a b : Nat} (ha : a < pp) (hb : b < pp) (h1 : a ≠ 0) (h2 : b ≠ 0) : a * b % pp ≠ 0 := by
  intro h
  rcases pp_prm.euclid (Nat.dvd_of_mod_eq_zero h) with h3 | h3
  · have := Nat.le_of_dvd (by omega) h3; omega
  · have := Nat.le_of_dvd (by omega) h3; omega

/-- The even one of a number and its opposite. -/
def evn (y : Nat) : Nat := if y % 2 = 0 then y else (0 + (pp - y)) % pp
theorem evn_t {y : Nat} (h : y % 2 = 0) : evn y = y := if_pos h
theorem evn_f {y : Nat} (h : ¬ y % 2 = 0) : evn y = (0 + (pp - y)) % pp := if_neg h
theorem pp_odd : pp % 2 = 1 := by decide +kernel
theorem evn_spec {y : Nat} (hy : y < pp) : evn y < pp ∧ evn y % 2 = 0 ∧ evn y * evn y % pp = y * y % pp := by
  by_cases h : y % 2 = 0
  · rw [evn_t h]; exact ⟨hy, h, rfl⟩
  · have h1 : (0 + (pp - y)) % pp = pp - y := by rw [Nat.zero_add, Nat.mod_eq_of_lt (by omega)]
    rw [evn_f h, h1]
    have := pp_odd
    exact ⟨by omega, by omega, sq_neg (by omega)⟩
end Go.Proofs.Ytpogmflgmpifoaa

namespace Go.Proofs.Ytpogmflgmpifoaa
open Go.RowKit

theorem root_no {m y : Nat} (c1 : ∀ w, Calls Try.prog 79 #[el (dig m)] w fun e w' => e = .returned (.tuple #[el (dig y), .bool false]) ∧ Below w.heap.size w w') (w : World) :
    Calls Try.prog 61 #[el (dig m)] w fun e w' => e = .returned (.tuple #[el (dig 0), .bool false]) ∧ Below w.heap.size w w' := by
    refine s_in Try.func61 Try.ntmps61 rfl [.inl (el (dig m))] ?_
    intro β a h
    refine sym_seq ?_
    refine St.rg h [(1, .inr (0, pt 0)), (2, .inr (1, pt 0)), (3, .inl (.bool false))] [(ce m, 29), (ce 0, 29)] [] [eN 0, eN 1] ?_ ?_
    · exact oc (k_bx 0 (el (dig m)) (bxE (n := m)) rfl rfl) <|
      oc (k_al 1 alE rfl rfl) <|
      oz (k_mv (.inr rfl) rfl) <|
      ok_nil
    clear h; intro β a w h
    refine sym_then ?_
    refine sym_seq ?_
    refine St.rg h [(7, .inl (el (dig m))), (8, .inl (.tuple #[el (dig y), .bool false])), (6, .inl (.tuple #[el (dig y), .bool false])), (9, .inl (el (dig y))), (10, .inl (.bool false)), (4, .inr (2, pt 0)), (5, .inl (.bool false))] [(ce 0, 29)] [(2, ce y)] [eR 0, nn, nn, nn, nn, eN 2, eS 2] ?_ ?_
    · exact oc (k_ld 0 0 (el (dig m)) (c := ce m) (ldE (n := m) 29) rfl rfl) <|
      oc (k_ca 79 #[el (dig m)] (.tuple #[el (dig y), .bool false]) c1 rfl rfl) <|
      oc (k_mv (.inl rfl) rfl) <|
      oc (k_ex (.tuple #[el (dig y), .bool false]) (el (dig y)) rfl rfl) <|
      oc (k_ex (.tuple #[el (dig y), .bool false]) (.bool false) rfl rfl) <|
      oc (k_al 2 alE rfl rfl) <|
      oc (k_st 2 0 (el (dig y)) (c := ce 0) (n := ce y) (stE (n := y) (c := ce 0) 29 (ce_size _)) rfl rfl) <|
      oz (k_mv (.inr rfl) rfl) <|
      ok_nil
    clear h; intro β a w h
    refine sym_then ?_
    refine sym_seq ?_
    refine sym_seq ?_
    refine St.r0 h [(11, .inl (.bool false)), (12, .inl (.bool true))] [] ?_ ?_
    · exact oz (k_mv (.inl rfl) rfl) <|
      oz (k_nt false rfl rfl) <|
      ok_nil
    clear h; intro β a w h
    refine sym_then ?_
    refine s_ct h ?_
    refine sym_seq ?_
    refine St.rg h [(13, .inl (el (dig 0)))] [] [(1, ce 0)] [nn, eS 1] ?_ ?_
    · exact oc (k_bu #[] (el (dig 0)) bdE rfl rfl) <|
      oc (k_st 1 0 (el (dig 0)) (c := ce 0) (n := ce 0) (stE (n := 0) (c := ce 0) 29 (ce_size _)) rfl rfl) <|
      oz (k_mv (.inr rfl) rfl) <|
      ok_nil
    clear h; intro β a w h
    refine sym_then ?_
    refine wp_ret ?_
    refine then_ret ?_
    exact s_r2 (b := 1) (t0 := 29) (c := ce 0) h Try.results61 Try.underlying29 (fun hb => ⟨rfl, hb⟩)
theorem root_ev {m y : Nat} (hy : y < pp) (hev : decide (y % 2 = 0) = true) (c1 : ∀ w, Calls Try.prog 79 #[el (dig m)] w fun e w' => e = .returned (.tuple #[el (dig y), .bool true]) ∧ Below w.heap.size w w') (w : World) :
    Calls Try.prog 61 #[el (dig m)] w fun e w' => e = .returned (.tuple #[el (dig y), .bool true]) ∧ Below w.heap.size w w' := by
    refine s_in Try.func61 Try.ntmps61 rfl [.inl (el (dig m))] ?_
    intro β a h
    refine sym_seq ?_
    refine St.rg h [(1, .inr (0, pt 0)), (2, .inr (1, pt 0)), (3, .inl (.bool false))] [(ce m, 29), (ce 0, 29)] [] [eN 0, eN 1] ?_ ?_
    · exact oc (k_bx 0 (el (dig m)) (bxE (n := m)) rfl rfl) <|
      oc (k_al 1 alE rfl rfl) <|
      oz (k_mv (.inr rfl) rfl) <|
      ok_nil
    clear h; intro β a w h
    refine sym_then ?_
    refine sym_seq ?_
    refine St.rg h [(7, .inl (el (dig m))), (8, .inl (.tuple #[el (dig y), .bool true])), (6, .inl (.tuple #[el (dig y), .bool true])), (9, .inl (el (dig y))), (10, .inl (.bool true)), (4, .inr (2, pt 0)), (5, .inl (.bool true))] [(ce 0, 29)] [(2, ce y)] [eR 0, nn, nn, nn, nn, eN 2, eS 2] ?_ ?_
    · exact oc (k_ld 0 0 (el (dig m)) (c := ce m) (ldE (n := m) 29) rfl rfl) <|
      oc (k_ca 79 #[el (dig m)] (.tuple #[el (dig y), .bool true]) c1 rfl rfl) <|
      oc (k_mv (.inl rfl) rfl) <|
      oc (k_ex (.tuple #[el (dig y), .bool true]) (el (dig y)) rfl rfl) <|
      oc (k_ex (.tuple #[el (dig y), .bool true]) (.bool true) rfl rfl) <|
      oc (k_al 2 alE rfl rfl) <|
      oc (k_st 2 0 (el (dig y)) (c := ce 0) (n := ce y) (stE (n := y) (c := ce 0) 29 (ce_size _)) rfl rfl) <|
      oz (k_mv (.inr rfl) rfl) <|
      ok_nil
    clear h; intro β a w h
    refine sym_then ?_
    refine sym_seq ?_
    refine sym_seq ?_
    refine St.r0 h [(11, .inl (.bool true)), (12, .inl (.bool false))] [] ?_ ?_
    · exact oz (k_mv (.inl rfl) rfl) <|
      oz (k_nt true rfl rfl) <|
      ok_nil
    clear h; intro β a w h
    refine sym_then ?_
    refine s_cf h ?_
    refine wp_skip ?_
    refine sym_then ?_
    refine sym_seq ?_
    refine sym_seq ?_
    refine St.r0 h [(14, .inl (el (dig y))), (15, .inl (.bool true)), (16, .inl (.bool false))] [eR 2] ?_ ?_
    · exact oc (k_ld 2 0 (el (dig y)) (c := ce y) (ldE (n := y) 29) rfl rfl) <|
      oz (k_ca 47 #[el (dig y)] (.bool true) (fun w => even_b hy hev w) rfl rfl) <|
      oz (k_nt true rfl rfl) <|
      ok_nil
    clear h; intro β a w h
    refine sym_then ?_
    refine s_cf h ?_
    refine wp_skip ?_
    refine sym_then ?_
    refine sym_seq ?_
    refine St.rg h [(20, .inl (el (dig y))), (3, .inl (.bool true))] [] [(1, ce y)] [eR 2, eS 1] ?_ ?_
    · exact oc (k_ld 2 0 (el (dig y)) (c := ce y) (ldE (n := y) 29) rfl rfl) <|
      oc (k_st 1 0 (el (dig y)) (c := ce 0) (n := ce y) (stE (n := y) (c := ce 0) 29 (ce_size _)) rfl rfl) <|
      oz (k_mv (.inr rfl) rfl) <|
      ok_nil
    clear h; intro β a w h
    refine sym_then ?_
    refine wp_ret ?_
    exact s_r2 (b := 1) (t0 := 29) (c := ce y) h Try.results61 Try.underlying29 (fun hb => ⟨rfl, hb⟩)
theorem root_od {m y : Nat} (hy : y < pp) (hev : decide (y % 2 = 0) = false) (c1 : ∀ w, Calls Try.prog 79 #[el (dig m)] w fun e w' => e = .returned (.tuple #[el (dig y), .bool true]) ∧ Below w.heap.size w w') (w : World) :
    Calls Try.prog 61 #[el (dig m)] w fun e w' => e = .returned (.tuple #[el (dig ((0 + (pp - y)) % pp)), .bool true]) ∧ Below w.heap.size w w' := by
    refine s_in Try.func61 Try.ntmps61 rfl [.inl (el (dig m))] ?_
    intro β a h
    refine sym_seq ?_
    refine St.rg h [(1, .inr (0, pt 0)), (2, .inr (1, pt 0)), (3, .inl (.bool false))] [(ce m, 29), (ce 0, 29)] [] [eN 0, eN 1] ?_ ?_
    · exact oc (k_bx 0 (el (dig m)) (bxE (n := m)) rfl rfl) <|
      oc (k_al 1 alE rfl rfl) <|
      oz (k_mv (.inr rfl) rfl) <|
      ok_nil
    clear h; intro β a w h
    refine sym_then ?_
    refine sym_seq ?_
    refine St.rg h [(7, .inl (el (dig m))), (8, .inl (.tuple #[el (dig y), .bool true])), (6, .inl (.tuple #[el (dig y), .bool true])), (9, .inl (el (dig y))), (10, .inl (.bool true)), (4, .inr (2, pt 0)), (5, .inl (.bool true))] [(ce 0, 29)] [(2, ce y)] [eR 0, nn, nn, nn, nn, eN 2, eS 2] ?_ ?_
    · exact oc (k_ld 0 0 (el (dig m)) (c := ce m) (ldE (n := m) 29) rfl rfl) <|
      oc (k_ca 79 #[el (dig m)] (.tuple #[el (dig y), .bool true]) c1 rfl rfl) <|
      oc (k_mv (.inl rfl) rfl) <|
      oc (k_ex (.tuple #[el (dig y), .bool true]) (el (dig y)) rfl rfl) <|
      oc (k_ex (.tuple #[el (dig y), .bool true]) (.bool true) rfl rfl) <|
      oc (k_al 2 alE rfl rfl) <|
      oc (k_st 2 0 (el (dig y)) (c := ce 0) (n := ce y) (stE (n := y) (c := ce 0) 29 (ce_size _)) rfl rfl) <|
      oz (k_mv (.inr rfl) rfl) <|
      ok_nil
    clear h; intro β a w h
    refine sym_then ?_
    refine sym_seq ?_
    refine sym_seq ?_
    refine St.r0 h [(11, .inl (.bool true)), (12, .inl (.bool false))] [] ?_ ?_
    · exact oz (k_mv (.inl rfl) rfl) <|
      oz (k_nt true rfl rfl) <|
      ok_nil
    clear h; intro β a w h
    refine sym_then ?_
    refine s_cf h ?_
    refine wp_skip ?_
    refine sym_then ?_
    refine sym_seq ?_
    refine sym_seq ?_
    refine St.r0 h [(14, .inl (el (dig y))), (15, .inl (.bool false)), (16, .inl (.bool true))] [eR 2] ?_ ?_
    · exact oc (k_ld 2 0 (el (dig y)) (c := ce y) (ldE (n := y) 29) rfl rfl) <|
      oz (k_ca 47 #[el (dig y)] (.bool false) (fun w => even_b hy hev w) rfl rfl) <|
      oz (k_nt false rfl rfl) <|
      ok_nil
    clear h; intro β a w h
    refine sym_then ?_
    refine s_ct h ?_
    refine St.rg h [(17, .inl (el (dig 0))), (18, .inl (el (dig y))), (19, .inl (el (dig ((0 + (pp - y)) % pp))))] [] [(2, ce ((0 + (pp - y)) % pp))] [nn, eR 2, nn, eS 2] ?_ ?_
    · exact oc (k_bu #[] (el (dig 0)) bdE rfl rfl) <|
      oc (k_ld 2 0 (el (dig y)) (c := ce y) (ldE (n := y) 29) rfl rfl) <|
      oc (k_ca 29 #[el (dig 0), el (dig y)] (el (dig ((0 + (pp - y)) % pp))) (fun w => minus_d (by decide +kernel) hy w) rfl rfl) <|
      oc (k_st 2 0 (el (dig ((0 + (pp - y)) % pp))) (c := ce y) (n := ce ((0 + (pp - y)) % pp)) (stE (n := ((0 + (pp - y)) % pp)) (c := ce y) 29 (ce_size _)) rfl rfl) <|
      ok_nil
    clear h; intro β a w h
    refine sym_then ?_
    refine sym_seq ?_
    refine St.rg h [(20, .inl (el (dig ((0 + (pp - y)) % pp)))), (3, .inl (.bool true))] [] [(1, ce ((0 + (pp - y)) % pp))] [eR 2, eS 1] ?_ ?_
    · exact oc (k_ld 2 0 (el (dig ((0 + (pp - y)) % pp))) (c := ce ((0 + (pp - y)) % pp)) (ldE (n := ((0 + (pp - y)) % pp)) 29) rfl rfl) <|
      oc (k_st 1 0 (el (dig ((0 + (pp - y)) % pp))) (c := ce 0) (n := ce ((0 + (pp - y)) % pp)) (stE (n := ((0 + (pp - y)) % pp)) (c := ce 0) 29 (ce_size _)) rfl rfl) <|
      oz (k_mv (.inr rfl) rfl) <|
      ok_nil
    clear h; intro β a w h
    refine sym_then ?_
    refine wp_ret ?_
    exact s_r2 (b := 1) (t0 := 29) (c := ce ((0 + (pp - y)) % pp)) h Try.results61 Try.underlying29 (fun hb => ⟨rfl, hb⟩)

theorem hexp : ∃ h : Nat, 2 * h + 1 = pp ∧ ∀ k : Nat, k = 7237005577332262213973186563042994240829374041602535252466099000494570602494 → 4 * k = h + 2 :=
  ⟨28948022309329048855892746252171976963317496166410141009864396001978282409974, by unfold pp; omega, fun k hk => by subst hk; omega⟩

/-- Root: an even root and true, or nothing and false where there is none. -/
theorem root_d {m : Nat} (hm : m < pp) : ∃ (r : Nat) (b : Bool), r < pp ∧ (b = true → r * r % pp = m ∧ r % 2 = 0) ∧ (b = false → r = 0 ∧ ∀ x, x * x % pp ≠ m) ∧
    ∀ w, Calls Try.prog 61 #[el (dig m)] w fun e w' => e = .returned (.tuple #[el (dig r), .bool b]) ∧ Below w.heap.size w w' := by
  obtain ⟨k, hk, c⟩ := anyRoot_d hm
  obtain ⟨h, hh, h4⟩ := hexp
  have h4 := h4 k hk.out
  have hy : aRt (m ^ k % pp) m < pp := aRt_lt (mod_pp _)
  have hone : m ^ h % pp = 1 → aRt (m ^ k % pp) m * aRt (m ^ k % pp) m % pp = m := fun h1 => root_of_one hm h4 h1 rfl
  have hzero : m = 0 → aRt (m ^ k % pp) m * aRt (m ^ k % pp) m % pp = m := by
    intro e
    subst e
    have hk0 : 0 < k := by omega
    have e0 : 0 ^ k % pp = 0 := by rw [Nat.zero_pow hk0]; exact Nat.zero_mod _
    rw [e0, aRt_t (by simp)]; simp
  generalize aRt (m ^ k % pp) m = y at *
  by_cases hb : y * y % pp = m
  · rw [decide_eq_true hb] at c
    obtain ⟨s1, s2, s3⟩ := evn_spec hy
    refine ⟨evn y, true, s1, fun _ => ⟨by rw [s3]; exact hb, s2⟩, fun h => (by cases h), fun w => ?_⟩
    by_cases he : y % 2 = 0
    · rw [evn_t he]; exact root_ev hy (decide_eq_true he) c w
    · rw [evn_f he]; exact root_od hy (decide_eq_false he) c w
  · rw [decide_eq_false hb] at c
    refine ⟨0, false, pp_pos, fun h => (by cases h), fun _ => ⟨rfl, fun x hx => hb ?_⟩, root_no c⟩
    by_cases h0 : m = 0
    · exact hzero h0
    · exact hone (one_of_root hh h0 hx)
end Go.Proofs.Ytpogmflgmpifoaa

namespace Go.Proofs.Ytpogmflgmpifoaa
open Go.RowKit

theorem ldP {a b : Nat} (t0 : TypeId) (w : World) (q : Nat) (h : w.heap[q]? = some (.cells (ces [a, b]) t0 (0, 0))) : (Instr.loadAt 31 (.pointer (some ⟨q, 0, none⟩))).run Try.prog w = .ok (.agg (ces [a, b])) w :=
  ld_row (c := ces [a, b]) Try.underlying31 rfl (by rw [ces_size]; kernel_rfl) w q h
theorem stP {a b : Nat} {c : Array Value} (t0 : TypeId) (hc : c.size = 8) (w : World) (q : Nat) (h : w.heap[q]? = some (.cells c t0 (0, 0))) : (Instr.storeAt 31 (.pointer (some ⟨q, 0, none⟩)) (.agg (ces [a, b]))).run Try.prog w = .ok () (w.setRow q (ces [a, b])) :=
  st_row (n := ces [a, b]) (by rw [ces_size]; kernel_rfl) (by rw [hc, ces_size]; rfl) (ces_one _) w q h
theorem bxP {a b : Nat} (w : World) : (Instr.box 31 (.agg (ces [a, b]))).run Try.prog w = .ok (.pointer (some ⟨w.heap.size, 0, none⟩)) (w.alloc (.cells (ces [a, b]) 31)) := bx_agg w
theorem alP (w : World) : (Instr.alloc 31 true (.tuple #[])).run Try.prog w = .ok (.pointer (some ⟨w.heap.size, 0, none⟩)) (w.alloc (.cells (ces [0, 0]) 31)) := by
  simp [Instr.alloc, go_sem]
  rfl
theorem bdP0 (w : World) : (Instr.build 31 #[]).run Try.prog w = .ok (.agg (ces [0, 0])) w := by kernel_rfl
theorem bdP {a b : Nat} (w : World) : (Instr.build 31 #[(0, el (dig a)), (1, el (dig b))]).run Try.prog w = .ok (.agg (ces [a, b])) w := by kernel_rfl
theorem ldS {a b c d : Nat} (t0 : TypeId) (w : World) (q : Nat) (h : w.heap[q]? = some (.cells (ces [a, b, c, d]) t0 (0, 0))) : (Instr.loadAt 73 (.pointer (some ⟨q, 0, none⟩))).run Try.prog w = .ok (.agg (ces [a, b, c, d])) w :=
  ld_row (c := ces [a, b, c, d]) Try.underlying73 rfl (by rw [ces_size]; kernel_rfl) w q h
theorem stS {a b c d : Nat} {e : Array Value} (t0 : TypeId) (hc : e.size = 16) (w : World) (q : Nat) (h : w.heap[q]? = some (.cells e t0 (0, 0))) : (Instr.storeAt 73 (.pointer (some ⟨q, 0, none⟩)) (.agg (ces [a, b, c, d]))).run Try.prog w = .ok () (w.setRow q (ces [a, b, c, d])) :=
  st_row (n := ces [a, b, c, d]) (by rw [ces_size]; kernel_rfl) (by rw [hc, ces_size]; rfl) (ces_one _) w q h
theorem bxS {a b c d : Nat} (w : World) : (Instr.box 73 (.agg (ces [a, b, c, d]))).run Try.prog w = .ok (.pointer (some ⟨w.heap.size, 0, none⟩)) (w.alloc (.cells (ces [a, b, c, d]) 73)) := bx_agg w
theorem alS (w : World) : (Instr.alloc 73 true (.tuple #[])).run Try.prog w = .ok (.pointer (some ⟨w.heap.size, 0, none⟩)) (w.alloc (.cells (ces [0, 0, 0, 0]) 73)) := by
  simp [Instr.alloc, go_sem]
  rfl
theorem bdS {a b c d : Nat} (w : World) : (Instr.build 73 #[(0, el (dig a)), (1, el (dig b)), (2, el (dig c)), (3, el (dig d))]).run Try.prog w = .ok (.agg (ces [a, b, c, d])) w := by kernel_rfl
theorem bxL {a : Nat} (w : World) : (Instr.box 78 (.agg (ces [a]))).run Try.prog w = .ok (.pointer (some ⟨w.heap.size, 0, none⟩)) (w.alloc (.cells (ces [a]) 78)) := bx_agg w
theorem stL {a : Nat} {e : Array Value} (t0 : TypeId) (hc : e.size = 4) (w : World) (q : Nat) (h : w.heap[q]? = some (.cells e t0 (0, 0))) : (Instr.storeAt 78 (.pointer (some ⟨q, 0, none⟩)) (.agg (ces [a]))).run Try.prog w = .ok () (w.setRow q (ces [a])) :=
  st_row (n := ces [a]) (by rw [ces_size]; kernel_rfl) (by rw [hc, ces_size]; rfl) (ces_one _) w q h
theorem alL (w : World) : (Instr.alloc 78 true (.tuple #[])).run Try.prog w = .ok (.pointer (some ⟨w.heap.size, 0, none⟩)) (w.alloc (.cells (ces [0]) 78)) := by
  simp [Instr.alloc, go_sem]
  rfl
theorem bdL {a : Nat} (w : World) : (Instr.build 78 #[(0, el (dig a))]).run Try.prog w = .ok (.agg (ces [a])) w := by kernel_rfl

/-- The contracts, each answer under a name. -/
theorem plus_v {m n : Nat} (hm : m < pp) (hn : n < pp) : ∃ r : Nat, Hid (r = (m + n) % pp) ∧ r < pp ∧ ∀ w, Calls Try.prog 60 #[el (dig m), el (dig n)] w fun e w' => e = .returned (el (dig r)) ∧ Below w.heap.size w w' :=
  ⟨_, hide1 rfl, mod_pp _, plus_d hm hn⟩
theorem minus_v {m n : Nat} (hm : m < pp) (hn : n < pp) : ∃ r : Nat, Hid (r = (m + (pp - n)) % pp) ∧ r < pp ∧ ∀ w, Calls Try.prog 29 #[el (dig m), el (dig n)] w fun e w' => e = .returned (el (dig r)) ∧ Below w.heap.size w w' :=
  ⟨_, hide1 rfl, mod_pp _, minus_d hm hn⟩
theorem times_v {m n : Nat} (hm : m < pp) (hn : n < pp) : ∃ r : Nat, Hid (r = m * n % pp) ∧ r < pp ∧ ∀ w, Calls Try.prog 58 #[el (dig m), el (dig n)] w fun e w' => e = .returned (el (dig r)) ∧ Below w.heap.size w w' :=
  ⟨_, hide1 rfl, mod_pp _, times_d hm hn⟩
/-- A number's inverse; of 0 it is 0. -/
def inv (n : Nat) : Nat := pmod n pp 255 (pp - 2)
theorem inv_pow_eq {n k : Nat} (hk : k = 57896044618658097711785492504343953926634992332820282019728792003956564819947) : n ^ k % pp = inv n := by
  have e : pp - 2 = k := by rw [hk]; decide +kernel
  have h : k < 2 ^ 255 := by rw [hk]; decide +kernel
  unfold inv
  rw [e, pmod_eq n pp 255 k h]
theorem inv_lt (n : Nat) : inv n < pp := by
  obtain ⟨k, hk⟩ : ∃ k : Nat, k = 57896044618658097711785492504343953926634992332820282019728792003956564819947 := ⟨_, rfl⟩
  rw [← inv_pow_eq hk]; exact mod_pp _
theorem inv_mul {n : Nat} (hn : n < pp) (h : n ≠ 0) : n * inv n % pp = 1 := by
  obtain ⟨k, hk⟩ : ∃ k : Nat, k = 57896044618658097711785492504343953926634992332820282019728792003956564819947 := ⟨_, rfl⟩
  rw [← inv_pow_eq hk]; exact inv_one hn h hk
theorem over_i {m n : Nat} (hm : m < pp) (hn : n < pp) (w : World) : Calls Try.prog 50 #[el (dig m), el (dig n)] w fun e w' => e = .returned (el (dig (m * inv n % pp))) ∧ Below w.heap.size w w' := by
  obtain ⟨k, hk, c⟩ := over_d hm hn
  have := c w
  rwa [inv_pow_eq hk.out] at this
theorem over_v {m n : Nat} (hm : m < pp) (hn : n < pp) : ∃ r : Nat, Hid (r = m * inv n % pp) ∧ r < pp ∧ ∀ w, Calls Try.prog 50 #[el (dig m), el (dig n)] w fun e w' => e = .returned (el (dig r)) ∧ Below w.heap.size w w' :=
  ⟨_, hide1 rfl, mod_pp _, over_i hm hn⟩

/-- A key that is written out. -/
def kl (l : List Nat) (i : Nat) : Nat := l.getD i 0
theorem kl_lt {l : List Nat} (h : l.all (fun n => Nat.blt n 256) = true) (i : Nat) : kl l i < 256 := by
  unfold kl
  by_cases hi : i < l.length
  · have := List.all_eq_true.1 h l[i] (List.getElem_mem hi)
    rw [List.getD_eq_getElem?_getD, List.getElem?_eq_getElem hi]
    exact Nat.le_of_ble_eq_true this
  · rw [List.getD_eq_getElem?_getD, List.getElem?_eq_none (by omega)]
    show 0 < 256; omega
/-- The curve's number. -/
def dN : Nat := 37095705934669439343138083508754565189542113879843219016388785533085940283555
def gX : Nat := 15112221349535400772501151409588531511454012693041857206046113283949847762202
end Go.Proofs.Ytpogmflgmpifoaa

namespace Go.Proofs.Ytpogmflgmpifoaa
open Go.RowKit

def ad (m n : Nat) : Nat := (m + n) % pp
def sb (m n : Nat) : Nat := (m + (pp - n)) % pp
def mu (m n : Nat) : Nat := m * n % pp
theorem ad_lt (m n : Nat) : ad m n < pp := mod_pp _
theorem sb_lt (m n : Nat) : sb m n < pp := mod_pp _
theorem mu_lt (m n : Nat) : mu m n < pp := mod_pp _
theorem zero_ltp : 0 < pp := pp_pos
theorem one_ltp : 1 < pp := by decide +kernel
theorem two_ltp : 2 < pp := by decide +kernel
theorem four_ltp : 4 < pp := by decide +kernel
theorem five_ltp : 5 < pp := by decide +kernel
theorem plus_m {m n : Nat} (hm : m < pp) (hn : n < pp) (w : World) : Calls Try.prog 60 #[el (dig m), el (dig n)] w fun e w' => e = .returned (el (dig (ad m n))) ∧ Below w.heap.size w w' := plus_d hm hn w
theorem minus_m {m n : Nat} (hm : m < pp) (hn : n < pp) (w : World) : Calls Try.prog 29 #[el (dig m), el (dig n)] w fun e w' => e = .returned (el (dig (sb m n))) ∧ Below w.heap.size w w' := minus_d hm hn w
theorem times_m {m n : Nat} (hm : m < pp) (hn : n < pp) (w : World) : Calls Try.prog 58 #[el (dig m), el (dig n)] w fun e w' => e = .returned (el (dig (mu m n))) ∧ Below w.heap.size w w' := times_d hm hn w
theorem over_m {m n : Nat} (hm : m < pp) (hn : n < pp) (w : World) : Calls Try.prog 50 #[el (dig m), el (dig n)] w fun e w' => e = .returned (el (dig (mu m (inv n)))) ∧ Below w.heap.size w w' := over_i hm hn w
theorem int_m {m : Nat} (h : m < 9223372036854775808) (w : World) : Calls Try.prog 49 #[.int .i64 ((m : Nat) : Int)] w fun e w' => e = .returned (el (dig m)) ∧ Below w.heap.size w w' := int_pos_d h w
theorem dN_lt : dN < pp := by decide +kernel
theorem gX_lt : gX < pp := by decide +kernel
theorem or_b {x u : Operand} {m : Nat} (h : m < 128) (w : World) : (do eqGuard .or 5 x u (.int .u8 ((m : Nat) : Int)) (.int .u8 ((128 : Nat) : Int)); binOp .or 5 (.int .u8 ((m : Nat) : Int)) (.int .u8 ((128 : Nat) : Int))).run Try.prog w = .ok (.int .u8 ((m + 128 : Nat) : Int)) w := by
  have h1 : ∀ k, k < 128 → bits .or .u8 ((k : Nat) : Int) 128 = ((k + 128 : Nat) : Int) := by decide +kernel
  have h2 := h1 m h
  simp [eqGuard, binOp, go_sem, h2]
theorem and_b {x u : Operand} {m : Nat} (h : m < 256) (w : World) : (do eqGuard .and 5 x u (.int .u8 ((m : Nat) : Int)) (.int .u8 ((128 : Nat) : Int)); binOp .and 5 (.int .u8 ((m : Nat) : Int)) (.int .u8 ((128 : Nat) : Int))).run Try.prog w = .ok (.int .u8 ((m / 128 * 128 : Nat) : Int)) w := by
  have h1 : ∀ k, k < 256 → bits .and .u8 ((k : Nat) : Int) 128 = ((k / 128 * 128 : Nat) : Int) := by decide +kernel
  have h2 := h1 m h
  simp [eqGuard, binOp, go_sem, h2]
theorem an_b {x u : Operand} {m : Nat} (h : m < 256) (w : World) : (do eqGuard .andNot 5 x u (.int .u8 ((m : Nat) : Int)) (.int .u8 ((128 : Nat) : Int)); binOp .andNot 5 (.int .u8 ((m : Nat) : Int)) (.int .u8 ((128 : Nat) : Int))).run Try.prog w = .ok (.int .u8 ((m % 128 : Nat) : Int)) w := by
  have h1 : ∀ k, k < 256 → bits .andNot .u8 ((k : Nat) : Int) 128 = ((k % 128 : Nat) : Int) := by decide +kernel
  have h2 := h1 m h
  simp [eqGuard, binOp, go_sem, h2]
theorem ne_b {x u : Operand} {m n : Nat} {b : Bool} (h : decide (¬ m = n) = b) (w : World) : (do eqGuard .neq 5 x u (.int .u8 ((m : Nat) : Int)) (.int .u8 ((n : Nat) : Int)); binOp .neq 5 (.int .u8 ((m : Nat) : Int)) (.int .u8 ((n : Nat) : Int))).run Try.prog w = .ok (.bool b) w := by
  have h1 : (((m : Nat) : Int) != ((n : Nat) : Int)) = b := by rw [← h, Bool.eq_iff_iff]; simp; omega
  simp [eqGuard, binOp, go_sem, h1]
theorem eq_b {x u : Operand} {m n : Nat} {b : Bool} (h : decide (m = n) = b) (w : World) : (do eqGuard .eql 5 x u (.int .u8 ((m : Nat) : Int)) (.int .u8 ((n : Nat) : Int)); binOp .eql 5 (.int .u8 ((m : Nat) : Int)) (.int .u8 ((n : Nat) : Int))).run Try.prog w = .ok (.bool b) w := by
  have h1 : (((m : Nat) : Int) == ((n : Nat) : Int)) = b := by rw [← h, Bool.eq_iff_iff]; simp; omega
  simp [eqGuard, binOp, go_sem, h1]
end Go.Proofs.Ytpogmflgmpifoaa

namespace Go.Proofs.Ytpogmflgmpifoaa
open Go.RowKit

set_option maxHeartbeats 4000000 in
theorem cnum_r (W0 : World) : Calls Try.prog 59 #[] W0 fun e w' => e = .returned (el (dig dN)) ∧ Below W0.heap.size W0 w' := by
  refine s_in Try.func59 Try.ntmps59 rfl [] ?_
  intro β a h
  refine sym_seq ?_
  refine St.rg h [(0, .inr (0, pt 0))] [(ce 0, 29)] [] [eN 0] ?_ ?_
  · exact oc (k_al 0 alE rfl rfl) <|
    ok_nil
  clear h; intro β a w h
  refine sym_then ?_
  refine sym_seq ?_
  refine St.rg h [(1, .inl (.agg (ck (kl [163, 120, 89, 19, 202, 77, 235, 117, 171, 216, 65, 65, 77, 10, 112, 0, 152, 232, 121, 119, 121, 64, 199, 140, 115, 254, 111, 43, 238, 108, 3, 82])))), (2, .inl (el (dig dN)))] [] [(0, ce dN)] [nn, nn, eS 0] ?_ ?_
  · exact oc (k_bu #[(0, .int .u8 ((163 : Nat) : Int)), (1, .int .u8 ((120 : Nat) : Int)), (2, .int .u8 ((89 : Nat) : Int)), (3, .int .u8 ((19 : Nat) : Int)), (4, .int .u8 ((202 : Nat) : Int)), (5, .int .u8 ((77 : Nat) : Int)), (6, .int .u8 ((235 : Nat) : Int)), (7, .int .u8 ((117 : Nat) : Int)), (8, .int .u8 ((171 : Nat) : Int)), (9, .int .u8 ((216 : Nat) : Int)), (10, .int .u8 ((65 : Nat) : Int)), (11, .int .u8 ((65 : Nat) : Int)), (12, .int .u8 ((77 : Nat) : Int)), (13, .int .u8 ((10 : Nat) : Int)), (14, .int .u8 ((112 : Nat) : Int)), (15, .int .u8 ((0 : Nat) : Int)), (16, .int .u8 ((152 : Nat) : Int)), (17, .int .u8 ((232 : Nat) : Int)), (18, .int .u8 ((121 : Nat) : Int)), (19, .int .u8 ((119 : Nat) : Int)), (20, .int .u8 ((121 : Nat) : Int)), (21, .int .u8 ((64 : Nat) : Int)), (22, .int .u8 ((199 : Nat) : Int)), (23, .int .u8 ((140 : Nat) : Int)), (24, .int .u8 ((115 : Nat) : Int)), (25, .int .u8 ((254 : Nat) : Int)), (26, .int .u8 ((111 : Nat) : Int)), (27, .int .u8 ((43 : Nat) : Int)), (28, .int .u8 ((238 : Nat) : Int)), (29, .int .u8 ((108 : Nat) : Int)), (30, .int .u8 ((3 : Nat) : Int)), (31, .int .u8 ((82 : Nat) : Int))] (.agg (ck (kl [163, 120, 89, 19, 202, 77, 235, 117, 171, 216, 65, 65, 77, 10, 112, 0, 152, 232, 121, 119, 121, 64, 199, 140, 115, 254, 111, 43, 238, 108, 3, 82]))) (fun w => by kernel_rfl) rfl rfl) <|
    oc (k_ca 25 #[.agg (ck (kl [163, 120, 89, 19, 202, 77, 235, 117, 171, 216, 65, 65, 77, 10, 112, 0, 152, 232, 121, 119, 121, 64, 199, 140, 115, 254, 111, 43, 238, 108, 3, 82]))] (el (dig dN)) (fun w => by have := of_k (b := (kl [163, 120, 89, 19, 202, 77, 235, 117, 171, 216, 65, 65, 77, 10, 112, 0, 152, 232, 121, 119, 121, 64, 199, 140, 115, 254, 111, 43, 238, 108, 3, 82])) (kl_lt (by decide)) w; rwa [show ofb (kl [163, 120, 89, 19, 202, 77, 235, 117, 171, 216, 65, 65, 77, 10, 112, 0, 152, 232, 121, 119, 121, 64, 199, 140, 115, 254, 111, 43, 238, 108, 3, 82]) = dN by decide +kernel] at this) rfl rfl) <|
    oc (k_st 0 0 (el (dig dN)) (c := ce 0) (n := ce dN) (stE (n := dN) (c := ce 0) 29 (ce_size _)) rfl rfl) <|
    ok_nil
  clear h; intro β a w h
  refine sym_then ?_
  refine wp_ret ?_
  exact s_rc (b := 0) (t0 := 29) (c := ce dN) h Try.results59 Try.underlying29 (fun hb => ⟨rfl, hb⟩)

set_option maxHeartbeats 4000000 in
theorem law_r  (W0 : World) : Calls Try.prog 43 #[] W0 fun e w' => e = .returned (.agg (ces [dN])) ∧ Below W0.heap.size W0 w' := by
  refine s_in Try.func43 Try.ntmps43 rfl [] ?_
  intro β a h
  refine sym_seq ?_
  refine St.rg h [(0, .inr (0, pt 0))] [(ces [0], 78)] [] [eN 0] ?_ ?_
  · exact oc (k_al 0 alL rfl rfl) <|
    ok_nil
  clear h; intro β a w h
  refine sym_then ?_
  refine sym_seq ?_
  refine St.rg h [(1, .inl (el (dig dN))), (2, .inl (.agg (ces [dN])))] [] [(0, ces [dN])] [nn, nn, eS 0] ?_ ?_
  · exact oc (k_ca 59 #[] (el (dig dN)) cnum_r rfl rfl) <|
    oc (k_bu #[(0, el (dig dN))] (.agg (ces [dN])) (bdL (a := dN)) rfl rfl) <|
    oc (k_st 0 0 (.agg (ces [dN])) (c := ces [0]) (n := ces [dN]) (stL (a := dN) (e := ces [0]) 78 (by rw [ces_size]; rfl)) rfl rfl) <|
    ok_nil
  clear h; intro β a w h
  refine sym_then ?_
  refine wp_ret ?_
  exact s_rc (b := 0) (t0 := 78) (c := ces [dN]) h Try.results43 Try.underlying78 (fun hb => ⟨rfl, hb⟩) (by rw [ces_size]; kernel_rfl)

set_option maxHeartbeats 4000000 in
theorem twice_r {x : Nat} (hx : x < pp) (W0 : World) : Calls Try.prog 71 #[el (dig x)] W0 fun e w' => e = .returned (el (dig (ad x x))) ∧ Below W0.heap.size W0 w' := by
  refine s_in Try.func71 Try.ntmps71 rfl [.inl (el (dig x))] ?_
  intro β a h
  refine sym_seq ?_
  refine St.rg h [(1, .inr (0, pt 0)), (2, .inr (1, pt 0))] [(ce x, 29), (ce 0, 29)] [] [eN 0, eN 1] ?_ ?_
  · exact oc (k_bx 0 (el (dig x)) (bxE (n := x)) rfl rfl) <|
    oc (k_al 1 alE rfl rfl) <|
    ok_nil
  clear h; intro β a w h
  refine sym_then ?_
  refine sym_seq ?_
  refine St.rg h [(3, .inl (el (dig x))), (4, .inl (el (dig x))), (5, .inl (el (dig (ad x x))))] [] [(1, ce (ad x x))] [eR 0, eR 0, nn, eS 1] ?_ ?_
  · exact oc (k_ld 0 0 (el (dig x)) (c := ce x) (ldE (n := x) 29) rfl rfl) <|
    oc (k_ld 0 0 (el (dig x)) (c := ce x) (ldE (n := x) 29) rfl rfl) <|
    oc (k_ca 60 #[el (dig x), el (dig x)] (el (dig (ad x x))) (fun w => plus_m hx hx w) rfl rfl) <|
    oc (k_st 1 0 (el (dig (ad x x))) (c := ce 0) (n := ce (ad x x)) (stE (n := (ad x x)) (c := ce 0) 29 (ce_size _)) rfl rfl) <|
    ok_nil
  clear h; intro β a w h
  refine sym_then ?_
  refine wp_ret ?_
  exact s_rc (b := 1) (t0 := 29) (c := ce (ad x x)) h Try.results71 Try.underlying29 (fun hb => ⟨rfl, hb⟩)

set_option maxHeartbeats 4000000 in
theorem at_r {x y : Nat} (hy : y < pp) (W0 : World) : Calls Try.prog 30 #[el (dig x), el (dig y)] W0 fun e w' => e = .returned (.agg (ces [x, sb y 1])) ∧ Below W0.heap.size W0 w' := by
  refine s_in Try.func30 Try.ntmps30 rfl [.inl (el (dig x)), .inl (el (dig y))] ?_
  intro β a h
  refine sym_seq ?_
  refine St.rg h [(2, .inr (0, pt 0)), (3, .inr (1, pt 0)), (4, .inr (2, pt 0))] [(ce x, 29), (ce y, 29), (ces [0, 0], 31)] [] [eN 0, eN 1, eN 2] ?_ ?_
  · exact oc (k_bx 0 (el (dig x)) (bxE (n := x)) rfl rfl) <|
    oc (k_bx 1 (el (dig y)) (bxE (n := y)) rfl rfl) <|
    oc (k_al 2 alP rfl rfl) <|
    ok_nil
  clear h; intro β a w h
  refine sym_then ?_
  refine sym_seq ?_
  refine St.rg h [(5, .inl (el (dig x))), (6, .inl (el (dig y))), (7, .inl (el (dig 1))), (8, .inl (el (dig (sb y 1)))), (9, .inl (.agg (ces [x, (sb y 1)])))] [] [(2, ces [x, (sb y 1)])] [eR 0, eR 1, nn, nn, nn, eS 2] ?_ ?_
  · exact oc (k_ld 0 0 (el (dig x)) (c := ce x) (ldE (n := x) 29) rfl rfl) <|
    oc (k_ld 1 0 (el (dig y)) (c := ce y) (ldE (n := y) 29) rfl rfl) <|
    oc (k_ca 49 #[.int .i64 ((1 : Nat) : Int)] (el (dig 1)) (fun w => int_m (m := 1) (by decide) w) rfl rfl) <|
    oc (k_ca 29 #[el (dig y), el (dig 1)] (el (dig (sb y 1))) (fun w => minus_m hy one_ltp w) rfl rfl) <|
    oc (k_bu #[(0, el (dig x)), (1, el (dig (sb y 1)))] (.agg (ces [x, (sb y 1)])) (bdP (a := x) (b := (sb y 1))) rfl rfl) <|
    oc (k_st 2 0 (.agg (ces [x, (sb y 1)])) (c := ces [0, 0]) (n := ces [x, (sb y 1)]) (stP (a := x) (b := (sb y 1)) (c := ces [0, 0]) 31 (by rw [ces_size]; rfl)) rfl rfl) <|
    ok_nil
  clear h; intro β a w h
  refine sym_then ?_
  refine wp_ret ?_
  exact s_rc (b := 2) (t0 := 31) (c := ces [x, (sb y 1)]) h Try.results30 Try.underlying31 (fun hb => ⟨rfl, hb⟩) (by rw [ces_size]; kernel_rfl)

set_option maxHeartbeats 4000000 in
theorem y_r {x b : Nat} (hb : b < pp) (W0 : World) : Calls Try.prog 46 #[.agg (ces [x, b])] W0 fun e w' => e = .returned (el (dig (ad b 1))) ∧ Below W0.heap.size W0 w' := by
  refine s_in Try.func46 Try.ntmps46 rfl [.inl (.agg (ces [x, b]))] ?_
  intro β a h
  refine sym_seq ?_
  refine St.rg h [(1, .inr (0, pt 0)), (2, .inr (1, pt 0))] [(ces [x, b], 31), (ce 0, 29)] [] [eN 0, eN 1] ?_ ?_
  · exact oc (k_bx 0 (.agg (ces [x, b])) (bxP (a := x) (b := b)) rfl rfl) <|
    oc (k_al 1 alE rfl rfl) <|
    ok_nil
  clear h; intro β a w h
  refine sym_then ?_
  refine sym_seq ?_
  refine St.rg h [(3, .inr (0, pt 4)), (4, .inl (el (dig b))), (5, .inl (el (dig 1))), (6, .inl (el (dig (ad b 1))))] [] [(1, ce (ad b 1))] [nn, eR 0, nn, nn, eS 1] ?_ ?_
  · exact oc (k_fa 0 0 4 rfl rfl) <|
    oc (k_ld 0 4 (el (dig b)) (c := ces [x, b]) (ld_ces (l := [x, b]) (k := 1) (n := b) 31 rfl) rfl rfl) <|
    oc (k_ca 49 #[.int .i64 ((1 : Nat) : Int)] (el (dig 1)) (fun w => int_m (m := 1) (by decide) w) rfl rfl) <|
    oc (k_ca 60 #[el (dig b), el (dig 1)] (el (dig (ad b 1))) (fun w => plus_m hb one_ltp w) rfl rfl) <|
    oc (k_st 1 0 (el (dig (ad b 1))) (c := ce 0) (n := ce (ad b 1)) (stE (n := (ad b 1)) (c := ce 0) 29 (ce_size _)) rfl rfl) <|
    ok_nil
  clear h; intro β a w h
  refine sym_then ?_
  refine wp_ret ?_
  exact s_rc (b := 1) (t0 := 29) (c := ce (ad b 1)) h Try.results46 Try.underlying29 (fun hb => ⟨rfl, hb⟩)

set_option maxHeartbeats 4000000 in
theorem shared_r {x b : Nat} (hx : x < pp) (hb : b < pp) (W0 : World) : Calls Try.prog 42 #[.agg (ces [x, b])] W0 fun e w' => e = .returned (.agg (ces [x, ad b 1, 1, mu x (ad b 1)])) ∧ Below W0.heap.size W0 w' := by
  refine s_in Try.func42 Try.ntmps42 rfl [.inl (.agg (ces [x, b]))] ?_
  intro β a h
  refine sym_seq ?_
  refine St.rg h [(1, .inr (0, pt 0)), (2, .inr (1, pt 0))] [(ces [x, b], 31), (ces [0, 0, 0, 0], 73)] [] [eN 0, eN 1] ?_ ?_
  · exact oc (k_bx 0 (.agg (ces [x, b])) (bxP (a := x) (b := b)) rfl rfl) <|
    oc (k_al 1 alS rfl rfl) <|
    ok_nil
  clear h; intro β a w h
  refine sym_then ?_
  refine sym_seq ?_
  refine St.rg h [(4, .inl (.agg (ces [x, b]))), (5, .inl (el (dig (ad b 1)))), (3, .inr (2, pt 0))] [(ce 0, 29)] [(2, ce (ad b 1))] [eR 0, nn, eN 2, eS 2] ?_ ?_
  · exact oc (k_ld 0 0 (.agg (ces [x, b])) (c := ces [x, b]) (ldP (a := x) (b := b) 31) rfl rfl) <|
    oc (k_ca 46 #[.agg (ces [x, b])] (el (dig (ad b 1))) (fun w => y_r hb w) rfl rfl) <|
    oc (k_al 2 alE rfl rfl) <|
    oc (k_st 2 0 (el (dig (ad b 1))) (c := ce 0) (n := ce (ad b 1)) (stE (n := (ad b 1)) (c := ce 0) 29 (ce_size _)) rfl rfl) <|
    ok_nil
  clear h; intro β a w h
  refine sym_then ?_
  refine sym_seq ?_
  refine St.rg h [(6, .inr (0, pt 0)), (7, .inl (el (dig x))), (8, .inl (el (dig (ad b 1)))), (9, .inl (el (dig 1))), (10, .inr (0, pt 0)), (11, .inl (el (dig x))), (12, .inl (el (dig (ad b 1)))), (13, .inl (el (dig (mu x (ad b 1))))), (14, .inl (.agg (ces [x, (ad b 1), 1, (mu x (ad b 1))])))] [] [(1, ces [x, (ad b 1), 1, (mu x (ad b 1))])] [nn, eR 0, eR 2, nn, nn, eR 0, eR 2, nn, nn, eS 1] ?_ ?_
  · exact oc (k_fa 0 0 0 rfl rfl) <|
    oc (k_ld 0 0 (el (dig x)) (c := ces [x, b]) (ld_ces (l := [x, b]) (k := 0) (n := x) 31 rfl) rfl rfl) <|
    oc (k_ld 2 0 (el (dig (ad b 1))) (c := ce (ad b 1)) (ldE (n := (ad b 1)) 29) rfl rfl) <|
    oc (k_ca 49 #[.int .i64 ((1 : Nat) : Int)] (el (dig 1)) (fun w => int_m (m := 1) (by decide) w) rfl rfl) <|
    oc (k_fa 0 0 0 rfl rfl) <|
    oc (k_ld 0 0 (el (dig x)) (c := ces [x, b]) (ld_ces (l := [x, b]) (k := 0) (n := x) 31 rfl) rfl rfl) <|
    oc (k_ld 2 0 (el (dig (ad b 1))) (c := ce (ad b 1)) (ldE (n := (ad b 1)) 29) rfl rfl) <|
    oc (k_ca 58 #[el (dig x), el (dig (ad b 1))] (el (dig (mu x (ad b 1)))) (fun w => times_m hx (ad_lt _ _) w) rfl rfl) <|
    oc (k_bu #[(0, el (dig x)), (1, el (dig (ad b 1))), (2, el (dig 1)), (3, el (dig (mu x (ad b 1))))] (.agg (ces [x, (ad b 1), 1, (mu x (ad b 1))])) (bdS (a := x) (b := (ad b 1)) (c := 1) (d := (mu x (ad b 1)))) rfl rfl) <|
    oc (k_st 1 0 (.agg (ces [x, (ad b 1), 1, (mu x (ad b 1))])) (c := ces [0, 0, 0, 0]) (n := ces [x, (ad b 1), 1, (mu x (ad b 1))]) (stS (a := x) (b := (ad b 1)) (c := 1) (d := (mu x (ad b 1))) (e := ces [0, 0, 0, 0]) 73 (by rw [ces_size]; rfl)) rfl rfl) <|
    ok_nil
  clear h; intro β a w h
  refine sym_then ?_
  refine wp_ret ?_
  exact s_rc (b := 1) (t0 := 73) (c := ces [x, (ad b 1), 1, (mu x (ad b 1))]) h Try.results42 Try.underlying73 (fun hb => ⟨rfl, hb⟩) (by rw [ces_size]; kernel_rfl)

set_option maxHeartbeats 4000000 in
theorem point_r {X Y Z T : Nat} (hX : X < pp) (hY : Y < pp) (hZ : Z < pp) (W0 : World) : Calls Try.prog 45 #[.agg (ces [X, Y, Z, T])] W0 fun e w' => e = .returned (.agg (ces [mu X (mu 1 (inv Z)), sb (mu Y (mu 1 (inv Z))) 1])) ∧ Below W0.heap.size W0 w' := by
  refine s_in Try.func45 Try.ntmps45 rfl [.inl (.agg (ces [X, Y, Z, T]))] ?_
  intro β a h
  refine sym_seq ?_
  refine St.rg h [(1, .inr (0, pt 0)), (2, .inr (1, pt 0))] [(ces [X, Y, Z, T], 73), (ces [0, 0], 31)] [] [eN 0, eN 1] ?_ ?_
  · exact oc (k_bx 0 (.agg (ces [X, Y, Z, T])) (bxS (a := X) (b := Y) (c := Z) (d := T)) rfl rfl) <|
    oc (k_al 1 alP rfl rfl) <|
    ok_nil
  clear h; intro β a w h
  refine sym_then ?_
  refine sym_seq ?_
  refine St.rg h [(4, .inl (el (dig 1))), (5, .inr (0, pt 8)), (6, .inl (el (dig Z))), (7, .inl (el (dig (mu 1 (inv Z))))), (3, .inr (2, pt 0))] [(ce 0, 29)] [(2, ce (mu 1 (inv Z)))] [nn, nn, eR 0, nn, eN 2, eS 2] ?_ ?_
  · exact oc (k_ca 49 #[.int .i64 ((1 : Nat) : Int)] (el (dig 1)) (fun w => int_m (m := 1) (by decide) w) rfl rfl) <|
    oc (k_fa 0 0 8 rfl rfl) <|
    oc (k_ld 0 8 (el (dig Z)) (c := ces [X, Y, Z, T]) (ld_ces (l := [X, Y, Z, T]) (k := 2) (n := Z) 73 rfl) rfl rfl) <|
    oc (k_ca 50 #[el (dig 1), el (dig Z)] (el (dig (mu 1 (inv Z)))) (fun w => over_m one_ltp hZ w) rfl rfl) <|
    oc (k_al 2 alE rfl rfl) <|
    oc (k_st 2 0 (el (dig (mu 1 (inv Z)))) (c := ce 0) (n := ce (mu 1 (inv Z))) (stE (n := (mu 1 (inv Z))) (c := ce 0) 29 (ce_size _)) rfl rfl) <|
    ok_nil
  clear h; intro β a w h
  refine sym_then ?_
  refine sym_seq ?_
  refine St.rg h [(8, .inr (0, pt 0)), (9, .inl (el (dig X))), (10, .inl (el (dig (mu 1 (inv Z))))), (11, .inl (el (dig (mu X (mu 1 (inv Z)))))), (12, .inr (0, pt 4)), (13, .inl (el (dig Y))), (14, .inl (el (dig (mu 1 (inv Z))))), (15, .inl (el (dig (mu Y (mu 1 (inv Z)))))), (16, .inl (.agg (ces [(mu X (mu 1 (inv Z))), (sb (mu Y (mu 1 (inv Z))) 1)])))] [] [(1, ces [(mu X (mu 1 (inv Z))), (sb (mu Y (mu 1 (inv Z))) 1)])] [nn, eR 0, eR 2, nn, nn, eR 0, eR 2, nn, nn, eS 1] ?_ ?_
  · exact oc (k_fa 0 0 0 rfl rfl) <|
    oc (k_ld 0 0 (el (dig X)) (c := ces [X, Y, Z, T]) (ld_ces (l := [X, Y, Z, T]) (k := 0) (n := X) 73 rfl) rfl rfl) <|
    oc (k_ld 2 0 (el (dig (mu 1 (inv Z)))) (c := ce (mu 1 (inv Z))) (ldE (n := (mu 1 (inv Z))) 29) rfl rfl) <|
    oc (k_ca 58 #[el (dig X), el (dig (mu 1 (inv Z)))] (el (dig (mu X (mu 1 (inv Z))))) (fun w => times_m hX (mu_lt _ _) w) rfl rfl) <|
    oc (k_fa 0 0 4 rfl rfl) <|
    oc (k_ld 0 4 (el (dig Y)) (c := ces [X, Y, Z, T]) (ld_ces (l := [X, Y, Z, T]) (k := 1) (n := Y) 73 rfl) rfl rfl) <|
    oc (k_ld 2 0 (el (dig (mu 1 (inv Z)))) (c := ce (mu 1 (inv Z))) (ldE (n := (mu 1 (inv Z))) 29) rfl rfl) <|
    oc (k_ca 58 #[el (dig Y), el (dig (mu 1 (inv Z)))] (el (dig (mu Y (mu 1 (inv Z))))) (fun w => times_m hY (mu_lt _ _) w) rfl rfl) <|
    oc (k_ca 30 #[el (dig (mu X (mu 1 (inv Z)))), el (dig (mu Y (mu 1 (inv Z))))] (.agg (ces [(mu X (mu 1 (inv Z))), (sb (mu Y (mu 1 (inv Z))) 1)])) (fun w => at_r (mu_lt _ _) w) rfl rfl) <|
    oc (k_st 1 0 (.agg (ces [(mu X (mu 1 (inv Z))), (sb (mu Y (mu 1 (inv Z))) 1)])) (c := ces [0, 0]) (n := ces [(mu X (mu 1 (inv Z))), (sb (mu Y (mu 1 (inv Z))) 1)]) (stP (a := (mu X (mu 1 (inv Z)))) (b := (sb (mu Y (mu 1 (inv Z))) 1)) (c := ces [0, 0]) 31 (by rw [ces_size]; rfl)) rfl rfl) <|
    ok_nil
  clear h; intro β a w h
  refine sym_then ?_
  refine wp_ret ?_
  exact s_rc (b := 1) (t0 := 31) (c := ces [(mu X (mu 1 (inv Z))), (sb (mu Y (mu 1 (inv Z))) 1)]) h Try.results45 Try.underlying31 (fun hb => ⟨rfl, hb⟩) (by rw [ces_size]; kernel_rfl)

end Go.Proofs.Ytpogmflgmpifoaa

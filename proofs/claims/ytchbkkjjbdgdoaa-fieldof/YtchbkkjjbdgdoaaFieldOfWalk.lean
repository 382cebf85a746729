/- The walk of FieldOf: which element any bytes and any whole number are. -/
import Derived.Test.YtchbkkjjbdgdoaaRef5
import Derived.Test.YtchbkkjjbdgdoaaRef6a
namespace Go.Proofs.Ytchbkkjjbdgdoaa
open Go.RowKit
theorem dg_parity (n : Nat) : dg n 0 % 2 = n % 2 := by unfold dg; rw [Nat.pow_zero, Nat.div_one]; omega

set_option maxHeartbeats 4000000 in
theorem fieldOf_pe (b0 : Nat → Nat) (h0 : ∀ i, b0 i < 256) {N : Nat} (hN : N < 9223372036854775808) (hNp : N < pp) (hev : ofb b0 % 2 = 0) (w : World) : Calls Try.prog 3 #[.agg (ck b0), .int .i64 (((N : Nat) : Int))] w fun e w' => e = .returned (.bool true) ∧ Below w.heap.size w w' := by
  have g1 := dg_parity (ofb b0)
  refine sym_enter Try.func3 Try.ntmps3 rfl [.inl (.agg (ck b0)), .inl (.int .i64 ((N : Nat) : Int)), .inl undef, .inl undef, .inl undef, .inl undef, .inl undef, .inl undef, .inl undef, .inl undef, .inl undef, .inl undef, .inl undef, .inl undef, .inl undef, .inl undef, .inl undef, .inl undef, .inl undef, .inl undef, .inl undef, .inl undef, .inl undef, .inl undef, .inl undef, .inl undef, .inl undef, .inl undef, .inl undef, .inl undef, .inl undef, .inl undef] (by kernel_rfl) (by kernel_rfl) ?_
  intro β a h
  refine sym_seq ?_
  refine St.region h [.inl (.agg (ck b0)), .inl (.int .i64 ((N : Nat) : Int)), .inr (0, 0), .inl undef, .inl (.bool false), .inl undef, .inl undef, .inl undef, .inl undef, .inl undef, .inl undef, .inl undef, .inl undef, .inl undef, .inl undef, .inl undef, .inl undef, .inl undef, .inl undef, .inl undef, .inl undef, .inl undef, .inl undef, .inl undef, .inl undef, .inl undef, .inl undef, .inl undef, .inl undef, .inl undef, .inl undef, .inl undef] [.inl (.agg (ck b0)), .inl (.int .i64 ((N : Nat) : Int)), .inl undef, .inl undef, .inl undef, .inl undef, .inl undef, .inl undef, .inl undef, .inl undef, .inl undef, .inl undef, .inl undef, .inl undef, .inl undef, .inl undef, .inl undef, .inl undef, .inl undef, .inl undef, .inl undef, .inl undef, .inl undef, .inl undef, .inl undef, .inl undef, .inl undef, .inl undef, .inl undef, .inl undef, .inl undef, .inl undef] [(ck b0, 23)] [(ck b0, 23)] [#[]] [⟨some 0, none, none, false⟩, ⟨none, none, none, false⟩] (by kernel_rfl) (by kernel_rfl) (by kernel_rfl) (by kernel_rfl) (by kernel_rfl) (by kernel_rfl) (by kernel_rfl) (by kernel_rfl) (by kernel_rfl) ?_ ?_
  · refine ok_cons (ok_box (b := 0) (u := .agg (ck b0)) (bxK (b := b0)) rfl (by kernel_rfl) rfl (by kernel_rfl) (by kernel_rfl) (by kernel_rfl) (by kernel_rfl)) ?_
    refine ok_cons (ok_mv (Or.inr rfl) (by kernel_rfl) rfl (by kernel_rfl) (by kernel_rfl)) ?_
    exact ok_nil
  clear h; intro β a w h
  refine sym_then ?_
  refine sym_seq ?_
  refine St.region h [.inl (.agg (ck b0)), .inl (.int .i64 ((N : Nat) : Int)), .inr (0, 0), .inl undef, .inl (.bool false), .inr (1, 0), .inl (.agg (ck b0)), .inl (.agg (ai 22 (dg (ofb b0)))), .inl undef, .inl undef, .inl undef, .inl undef, .inl undef, .inl undef, .inl undef, .inl undef, .inl undef, .inl undef, .inl undef, .inl undef, .inl undef, .inl undef, .inl undef, .inl undef, .inl undef, .inl undef, .inl undef, .inl undef, .inl undef, .inl undef, .inl undef, .inl undef] [.inl (.agg (ck b0)), .inl (.int .i64 ((N : Nat) : Int)), .inr (0, 0), .inl undef, .inl (.bool false), .inl undef, .inl undef, .inl undef, .inl undef, .inl undef, .inl undef, .inl undef, .inl undef, .inl undef, .inl undef, .inl undef, .inl undef, .inl undef, .inl undef, .inl undef, .inl undef, .inl undef, .inl undef, .inl undef, .inl undef, .inl undef, .inl undef, .inl undef, .inl undef, .inl undef, .inl undef, .inl undef] [(ck b0, 23), (ai 22 (dg (ofb b0)), 25)] [(ck b0, 23), (ai 22 (fun _ => 0), 25)] [#[], ai 22 (dg (ofb b0))] [⟨none, none, some 0, false⟩, ⟨none, none, none, false⟩, ⟨some 1, none, none, false⟩, ⟨none, some 1, none, false⟩] (by kernel_rfl) (by kernel_rfl) (by kernel_rfl) (by kernel_rfl) (by kernel_rfl) (by kernel_rfl) (by kernel_rfl) (by kernel_rfl) (by kernel_rfl) ?_ ?_
  · refine ok_cons (ok_load (b := 0) (off := 0) (c := ck b0) (v := .agg (ck b0)) (ldK (b := b0) 23) rfl (by kernel_rfl) rfl (by kernel_rfl) (by kernel_rfl) (by kernel_rfl)) ?_
    refine ok_cons (ok_call (vs := #[.agg (ck b0)]) (R := .agg (ai 22 (dg (ofb b0)))) (fun w => of_r h0 w) rfl (by kernel_rfl) rfl (by kernel_rfl) (by kernel_rfl) (by kernel_rfl) (fun w => by kernel_rfl)) ?_
    refine ok_cons (ok_alloc (b := 1) al22 rfl (by kernel_rfl) rfl (by kernel_rfl) (by kernel_rfl)) ?_
    refine ok_cons (ok_store (b := 1) (off := 0) (u := .agg (ai 22 (dg (ofb b0)))) (c := ai 22 (fun _ => 0)) (n := ai 22 (dg (ofb b0))) (st22 (F := (dg (ofb b0))) (c := ai 22 (fun _ => 0)) 25 (ai_size _ _)) rfl (by kernel_rfl) rfl (by kernel_rfl) (by kernel_rfl) (by kernel_rfl) (by kernel_rfl) (by kernel_rfl)) ?_
    exact ok_nil
  clear h; intro β a w h
  refine sym_then ?_
  refine sym_seq ?_
  refine St.region h [.inl (.agg (ck b0)), .inl (.int .i64 ((N : Nat) : Int)), .inr (0, 0), .inl undef, .inl (.bool true), .inr (1, 0), .inl (.agg (ck b0)), .inl (.agg (ai 22 (dg (ofb b0)))), .inl (.bool true), .inl (.bool true), .inl (.agg (ck b0)), .inl (el (dig (ofb b0))), .inl (.agg (ai 22 (dg (ofb b0)))), .inl (.bool true), .inl (.bool true), .inl (.bool true), .inl (.int .i64 ((N : Nat) : Int)), .inl (el (dig N)), .inl (.int .i64 ((N : Nat) : Int)), .inl (.agg (ai 22 (dg N))), .inl (.bool true), .inl (.bool true), .inl (.bool true), .inl (.agg (ck b0)), .inl (el (dig (ofb b0))), .inl (.bool true), .inr (1, 0), .inl (.int .i64 ((((dg (ofb b0)) 0) : Nat) : Int)), .inl (.int .i64 (((((dg (ofb b0)) 0) % 2) : Nat) : Int)), .inl (.bool true), .inl (.bool true), .inl (.bool true)] [.inl (.agg (ck b0)), .inl (.int .i64 ((N : Nat) : Int)), .inr (0, 0), .inl undef, .inl undef, .inr (1, 0), .inl (.agg (ck b0)), .inl (.agg (ai 22 (dg (ofb b0)))), .inl undef, .inl undef, .inl undef, .inl undef, .inl undef, .inl undef, .inl undef, .inl undef, .inl undef, .inl undef, .inl undef, .inl undef, .inl undef, .inl undef, .inl undef, .inl undef, .inl undef, .inl undef, .inl undef, .inl undef, .inl undef, .inl undef, .inl undef, .inl undef] [(ck b0, 23), (ai 22 (dg (ofb b0)), 25)] [(ck b0, 23), (ai 22 (dg (ofb b0)), 25)] [#[], #[]] [⟨none, none, none, false⟩, ⟨none, none, none, false⟩, ⟨none, none, some 0, false⟩, ⟨none, none, none, false⟩, ⟨none, none, some 1, false⟩, ⟨none, none, none, false⟩, ⟨none, none, none, false⟩, ⟨none, none, none, false⟩, ⟨none, none, none, false⟩, ⟨none, none, none, false⟩, ⟨none, none, none, false⟩, ⟨none, none, none, false⟩, ⟨none, none, none, false⟩, ⟨none, none, none, false⟩, ⟨none, none, none, false⟩, ⟨none, none, some 0, false⟩, ⟨none, none, none, false⟩, ⟨none, none, none, false⟩, ⟨none, none, none, false⟩, ⟨none, none, some 1, false⟩, ⟨none, none, none, false⟩, ⟨none, none, none, false⟩, ⟨none, none, none, false⟩, ⟨none, none, none, false⟩, ⟨none, none, none, false⟩] (by kernel_rfl) (by kernel_rfl) (by kernel_rfl) (by kernel_rfl) (by kernel_rfl) (by kernel_rfl) (by kernel_rfl) (by kernel_rfl) (by kernel_rfl) ?_ ?_
  · refine ok_cons (ok_call (vs := #[]) (R := .bool true) alive_any rfl (by kernel_rfl) rfl (by kernel_rfl) (by kernel_rfl) (by kernel_rfl) (fun w => by kernel_rfl)) ?_
    refine ok_cons (ok_mv (Or.inl rfl) (by kernel_rfl) rfl (by kernel_rfl) (by kernel_rfl)) ?_
    refine ok_cons (ok_load (b := 0) (off := 0) (c := ck b0) (v := .agg (ck b0)) (ldK (b := b0) 23) rfl (by kernel_rfl) rfl (by kernel_rfl) (by kernel_rfl) (by kernel_rfl)) ?_
    refine ok_cons (ok_call (vs := #[.agg (ck b0)]) (R := el (dig (ofb b0))) (fun w => of_k h0 w) rfl (by kernel_rfl) rfl (by kernel_rfl) (by kernel_rfl) (by kernel_rfl) (fun w => by kernel_rfl)) ?_
    refine ok_cons (ok_load (b := 1) (off := 0) (c := ai 22 (dg (ofb b0))) (v := .agg (ai 22 (dg (ofb b0)))) (ld22 (F := (dg (ofb b0))) 25) rfl (by kernel_rfl) rfl (by kernel_rfl) (by kernel_rfl) (by kernel_rfl)) ?_
    refine ok_cons (ok_call (vs := #[el (dig (ofb b0)), .agg (ai 22 (dg (ofb b0)))]) (R := .bool true) (fun w => same_r (ofb_lt b0) w) rfl (by kernel_rfl) rfl (by kernel_rfl) (by kernel_rfl) (by kernel_rfl) (fun w => by kernel_rfl)) ?_
    refine ok_cons (ok_pick_t rfl (by kernel_rfl) rfl (by kernel_rfl) (by kernel_rfl) (by kernel_rfl) (by kernel_rfl)) ?_
    refine ok_cons (ok_mv (Or.inl rfl) (by kernel_rfl) rfl (by kernel_rfl) (by kernel_rfl)) ?_
    refine ok_cons (ok_mv (Or.inl rfl) (by kernel_rfl) rfl (by kernel_rfl) (by kernel_rfl)) ?_
    refine ok_cons (ok_call (vs := #[.int .i64 ((N : Nat) : Int)]) (R := el (dig N)) (fun w => int_pos_d hN w) rfl (by kernel_rfl) rfl (by kernel_rfl) (by kernel_rfl) (by kernel_rfl) (fun w => by kernel_rfl)) ?_
    refine ok_cons (ok_mv (Or.inl rfl) (by kernel_rfl) rfl (by kernel_rfl) (by kernel_rfl)) ?_
    refine ok_cons (ok_call (vs := #[.int .i64 ((N : Nat) : Int)]) (R := .agg (ai 22 (dg N))) (fun w => int_r hN w) rfl (by kernel_rfl) rfl (by kernel_rfl) (by kernel_rfl) (by kernel_rfl) (fun w => by kernel_rfl)) ?_
    refine ok_cons (ok_call (vs := #[el (dig N), .agg (ai 22 (dg N))]) (R := .bool true) (fun w => same_r hNp w) rfl (by kernel_rfl) rfl (by kernel_rfl) (by kernel_rfl) (by kernel_rfl) (fun w => by kernel_rfl)) ?_
    refine ok_cons (ok_pick_t rfl (by kernel_rfl) rfl (by kernel_rfl) (by kernel_rfl) (by kernel_rfl) (by kernel_rfl)) ?_
    refine ok_cons (ok_mv (Or.inl rfl) (by kernel_rfl) rfl (by kernel_rfl) (by kernel_rfl)) ?_
    refine ok_cons (ok_load (b := 0) (off := 0) (c := ck b0) (v := .agg (ck b0)) (ldK (b := b0) 23) rfl (by kernel_rfl) rfl (by kernel_rfl) (by kernel_rfl) (by kernel_rfl)) ?_
    refine ok_cons (ok_call (vs := #[.agg (ck b0)]) (R := el (dig (ofb b0))) (fun w => of_k h0 w) rfl (by kernel_rfl) rfl (by kernel_rfl) (by kernel_rfl) (by kernel_rfl) (fun w => by kernel_rfl)) ?_
    refine ok_cons (ok_call (vs := #[el (dig (ofb b0))]) (R := .bool true) (fun w => even_b (ofb_lt b0) (decide_eq_true hev) w) rfl (by kernel_rfl) rfl (by kernel_rfl) (by kernel_rfl) (by kernel_rfl) (fun w => by kernel_rfl)) ?_
    refine ok_cons (ok_iaddr (b := 1) (off := 0) (off' := 0) (u := .int .i64 ((0 : Nat) : Int)) (ix22 (i := 0) (by omega)) rfl (by kernel_rfl) rfl (by kernel_rfl) (by kernel_rfl) (by kernel_rfl) (by kernel_rfl)) ?_
    refine ok_cons (ok_load (b := 1) (off := 0) (c := ai 22 (dg (ofb b0))) (v := .int .i64 ((((dg (ofb b0)) 0) : Nat) : Int)) (ld_at (n := 22) (F := (dg (ofb b0))) (i := 0) (t0 := 25) (by omega)) rfl (by kernel_rfl) rfl (by kernel_rfl) (by kernel_rfl) (by kernel_rfl)) ?_
    refine ok_cons (ok_bin (x1 := .int .i64 ((((dg (ofb b0)) 0) : Nat) : Int)) (u1 := .int .i64 ((2 : Nat) : Int)) (v := .int .i64 (((((dg (ofb b0)) 0) % 2) : Nat) : Int)) (re_i (m := ((dg (ofb b0)) 0)) (n := 2) (by decide)) rfl (by kernel_rfl) rfl (by kernel_rfl) (by kernel_rfl) (by kernel_rfl) (by kernel_rfl) (by kernel_rfl)) ?_
    refine ok_cons (ok_bin (x1 := .int .i64 (((((dg (ofb b0)) 0) % 2) : Nat) : Int)) (u1 := .int .i64 ((0 : Nat) : Int)) (v := .bool true) (eq_i (m := (((((dg (ofb b0)) 0) % 2) : Nat) : Int)) (n := ((0 : Nat) : Int)) (decide_eq_true (by omega))) rfl (by kernel_rfl) rfl (by kernel_rfl) (by kernel_rfl) (by kernel_rfl) (by kernel_rfl) (by kernel_rfl)) ?_
    refine ok_cons (ok_bin (x1 := .bool true) (u1 := .bool true) (v := .bool true) (fun w => by kernel_rfl) rfl (by kernel_rfl) rfl (by kernel_rfl) (by kernel_rfl) (by kernel_rfl) (by kernel_rfl) (by kernel_rfl)) ?_
    refine ok_cons (ok_pick_t rfl (by kernel_rfl) rfl (by kernel_rfl) (by kernel_rfl) (by kernel_rfl) (by kernel_rfl)) ?_
    refine ok_cons (ok_mv (Or.inr rfl) (by kernel_rfl) rfl (by kernel_rfl) (by kernel_rfl)) ?_
    exact ok_nil
  clear h; intro β a w h
  refine sym_then ?_
  refine wp_ret ?_
  exact sym_ret h Try.results3 (by kernel_rfl) (by kernel_rfl) (fun hb => ⟨rfl, hb⟩)

set_option maxHeartbeats 4000000 in
theorem fieldOf_po (b0 : Nat → Nat) (h0 : ∀ i, b0 i < 256) {N : Nat} (hN : N < 9223372036854775808) (hNp : N < pp) (hev : ¬ ofb b0 % 2 = 0) (w : World) : Calls Try.prog 3 #[.agg (ck b0), .int .i64 (((N : Nat) : Int))] w fun e w' => e = .returned (.bool true) ∧ Below w.heap.size w w' := by
  have g1 := dg_parity (ofb b0)
  refine sym_enter Try.func3 Try.ntmps3 rfl [.inl (.agg (ck b0)), .inl (.int .i64 ((N : Nat) : Int)), .inl undef, .inl undef, .inl undef, .inl undef, .inl undef, .inl undef, .inl undef, .inl undef, .inl undef, .inl undef, .inl undef, .inl undef, .inl undef, .inl undef, .inl undef, .inl undef, .inl undef, .inl undef, .inl undef, .inl undef, .inl undef, .inl undef, .inl undef, .inl undef, .inl undef, .inl undef, .inl undef, .inl undef, .inl undef, .inl undef] (by kernel_rfl) (by kernel_rfl) ?_
  intro β a h
  refine sym_seq ?_
  refine St.region h [.inl (.agg (ck b0)), .inl (.int .i64 ((N : Nat) : Int)), .inr (0, 0), .inl undef, .inl (.bool false), .inl undef, .inl undef, .inl undef, .inl undef, .inl undef, .inl undef, .inl undef, .inl undef, .inl undef, .inl undef, .inl undef, .inl undef, .inl undef, .inl undef, .inl undef, .inl undef, .inl undef, .inl undef, .inl undef, .inl undef, .inl undef, .inl undef, .inl undef, .inl undef, .inl undef, .inl undef, .inl undef] [.inl (.agg (ck b0)), .inl (.int .i64 ((N : Nat) : Int)), .inl undef, .inl undef, .inl undef, .inl undef, .inl undef, .inl undef, .inl undef, .inl undef, .inl undef, .inl undef, .inl undef, .inl undef, .inl undef, .inl undef, .inl undef, .inl undef, .inl undef, .inl undef, .inl undef, .inl undef, .inl undef, .inl undef, .inl undef, .inl undef, .inl undef, .inl undef, .inl undef, .inl undef, .inl undef, .inl undef] [(ck b0, 23)] [(ck b0, 23)] [#[]] [⟨some 0, none, none, false⟩, ⟨none, none, none, false⟩] (by kernel_rfl) (by kernel_rfl) (by kernel_rfl) (by kernel_rfl) (by kernel_rfl) (by kernel_rfl) (by kernel_rfl) (by kernel_rfl) (by kernel_rfl) ?_ ?_
  · refine ok_cons (ok_box (b := 0) (u := .agg (ck b0)) (bxK (b := b0)) rfl (by kernel_rfl) rfl (by kernel_rfl) (by kernel_rfl) (by kernel_rfl) (by kernel_rfl)) ?_
    refine ok_cons (ok_mv (Or.inr rfl) (by kernel_rfl) rfl (by kernel_rfl) (by kernel_rfl)) ?_
    exact ok_nil
  clear h; intro β a w h
  refine sym_then ?_
  refine sym_seq ?_
  refine St.region h [.inl (.agg (ck b0)), .inl (.int .i64 ((N : Nat) : Int)), .inr (0, 0), .inl undef, .inl (.bool false), .inr (1, 0), .inl (.agg (ck b0)), .inl (.agg (ai 22 (dg (ofb b0)))), .inl undef, .inl undef, .inl undef, .inl undef, .inl undef, .inl undef, .inl undef, .inl undef, .inl undef, .inl undef, .inl undef, .inl undef, .inl undef, .inl undef, .inl undef, .inl undef, .inl undef, .inl undef, .inl undef, .inl undef, .inl undef, .inl undef, .inl undef, .inl undef] [.inl (.agg (ck b0)), .inl (.int .i64 ((N : Nat) : Int)), .inr (0, 0), .inl undef, .inl (.bool false), .inl undef, .inl undef, .inl undef, .inl undef, .inl undef, .inl undef, .inl undef, .inl undef, .inl undef, .inl undef, .inl undef, .inl undef, .inl undef, .inl undef, .inl undef, .inl undef, .inl undef, .inl undef, .inl undef, .inl undef, .inl undef, .inl undef, .inl undef, .inl undef, .inl undef, .inl undef, .inl undef] [(ck b0, 23), (ai 22 (dg (ofb b0)), 25)] [(ck b0, 23), (ai 22 (fun _ => 0), 25)] [#[], ai 22 (dg (ofb b0))] [⟨none, none, some 0, false⟩, ⟨none, none, none, false⟩, ⟨some 1, none, none, false⟩, ⟨none, some 1, none, false⟩] (by kernel_rfl) (by kernel_rfl) (by kernel_rfl) (by kernel_rfl) (by kernel_rfl) (by kernel_rfl) (by kernel_rfl) (by kernel_rfl) (by kernel_rfl) ?_ ?_
  · refine ok_cons (ok_load (b := 0) (off := 0) (c := ck b0) (v := .agg (ck b0)) (ldK (b := b0) 23) rfl (by kernel_rfl) rfl (by kernel_rfl) (by kernel_rfl) (by kernel_rfl)) ?_
    refine ok_cons (ok_call (vs := #[.agg (ck b0)]) (R := .agg (ai 22 (dg (ofb b0)))) (fun w => of_r h0 w) rfl (by kernel_rfl) rfl (by kernel_rfl) (by kernel_rfl) (by kernel_rfl) (fun w => by kernel_rfl)) ?_
    refine ok_cons (ok_alloc (b := 1) al22 rfl (by kernel_rfl) rfl (by kernel_rfl) (by kernel_rfl)) ?_
    refine ok_cons (ok_store (b := 1) (off := 0) (u := .agg (ai 22 (dg (ofb b0)))) (c := ai 22 (fun _ => 0)) (n := ai 22 (dg (ofb b0))) (st22 (F := (dg (ofb b0))) (c := ai 22 (fun _ => 0)) 25 (ai_size _ _)) rfl (by kernel_rfl) rfl (by kernel_rfl) (by kernel_rfl) (by kernel_rfl) (by kernel_rfl) (by kernel_rfl)) ?_
    exact ok_nil
  clear h; intro β a w h
  refine sym_then ?_
  refine sym_seq ?_
  refine St.region h [.inl (.agg (ck b0)), .inl (.int .i64 ((N : Nat) : Int)), .inr (0, 0), .inl undef, .inl (.bool true), .inr (1, 0), .inl (.agg (ck b0)), .inl (.agg (ai 22 (dg (ofb b0)))), .inl (.bool true), .inl (.bool true), .inl (.agg (ck b0)), .inl (el (dig (ofb b0))), .inl (.agg (ai 22 (dg (ofb b0)))), .inl (.bool true), .inl (.bool true), .inl (.bool true), .inl (.int .i64 ((N : Nat) : Int)), .inl (el (dig N)), .inl (.int .i64 ((N : Nat) : Int)), .inl (.agg (ai 22 (dg N))), .inl (.bool true), .inl (.bool true), .inl (.bool true), .inl (.agg (ck b0)), .inl (el (dig (ofb b0))), .inl (.bool false), .inr (1, 0), .inl (.int .i64 ((((dg (ofb b0)) 0) : Nat) : Int)), .inl (.int .i64 (((((dg (ofb b0)) 0) % 2) : Nat) : Int)), .inl (.bool false), .inl (.bool true), .inl (.bool true)] [.inl (.agg (ck b0)), .inl (.int .i64 ((N : Nat) : Int)), .inr (0, 0), .inl undef, .inl undef, .inr (1, 0), .inl (.agg (ck b0)), .inl (.agg (ai 22 (dg (ofb b0)))), .inl undef, .inl undef, .inl undef, .inl undef, .inl undef, .inl undef, .inl undef, .inl undef, .inl undef, .inl undef, .inl undef, .inl undef, .inl undef, .inl undef, .inl undef, .inl undef, .inl undef, .inl undef, .inl undef, .inl undef, .inl undef, .inl undef, .inl undef, .inl undef] [(ck b0, 23), (ai 22 (dg (ofb b0)), 25)] [(ck b0, 23), (ai 22 (dg (ofb b0)), 25)] [#[], #[]] [⟨none, none, none, false⟩, ⟨none, none, none, false⟩, ⟨none, none, some 0, false⟩, ⟨none, none, none, false⟩, ⟨none, none, some 1, false⟩, ⟨none, none, none, false⟩, ⟨none, none, none, false⟩, ⟨none, none, none, false⟩, ⟨none, none, none, false⟩, ⟨none, none, none, false⟩, ⟨none, none, none, false⟩, ⟨none, none, none, false⟩, ⟨none, none, none, false⟩, ⟨none, none, none, false⟩, ⟨none, none, none, false⟩, ⟨none, none, some 0, false⟩, ⟨none, none, none, false⟩, ⟨none, none, none, false⟩, ⟨none, none, none, false⟩, ⟨none, none, some 1, false⟩, ⟨none, none, none, false⟩, ⟨none, none, none, false⟩, ⟨none, none, none, false⟩, ⟨none, none, none, false⟩, ⟨none, none, none, false⟩] (by kernel_rfl) (by kernel_rfl) (by kernel_rfl) (by kernel_rfl) (by kernel_rfl) (by kernel_rfl) (by kernel_rfl) (by kernel_rfl) (by kernel_rfl) ?_ ?_
  · refine ok_cons (ok_call (vs := #[]) (R := .bool true) alive_any rfl (by kernel_rfl) rfl (by kernel_rfl) (by kernel_rfl) (by kernel_rfl) (fun w => by kernel_rfl)) ?_
    refine ok_cons (ok_mv (Or.inl rfl) (by kernel_rfl) rfl (by kernel_rfl) (by kernel_rfl)) ?_
    refine ok_cons (ok_load (b := 0) (off := 0) (c := ck b0) (v := .agg (ck b0)) (ldK (b := b0) 23) rfl (by kernel_rfl) rfl (by kernel_rfl) (by kernel_rfl) (by kernel_rfl)) ?_
    refine ok_cons (ok_call (vs := #[.agg (ck b0)]) (R := el (dig (ofb b0))) (fun w => of_k h0 w) rfl (by kernel_rfl) rfl (by kernel_rfl) (by kernel_rfl) (by kernel_rfl) (fun w => by kernel_rfl)) ?_
    refine ok_cons (ok_load (b := 1) (off := 0) (c := ai 22 (dg (ofb b0))) (v := .agg (ai 22 (dg (ofb b0)))) (ld22 (F := (dg (ofb b0))) 25) rfl (by kernel_rfl) rfl (by kernel_rfl) (by kernel_rfl) (by kernel_rfl)) ?_
    refine ok_cons (ok_call (vs := #[el (dig (ofb b0)), .agg (ai 22 (dg (ofb b0)))]) (R := .bool true) (fun w => same_r (ofb_lt b0) w) rfl (by kernel_rfl) rfl (by kernel_rfl) (by kernel_rfl) (by kernel_rfl) (fun w => by kernel_rfl)) ?_
    refine ok_cons (ok_pick_t rfl (by kernel_rfl) rfl (by kernel_rfl) (by kernel_rfl) (by kernel_rfl) (by kernel_rfl)) ?_
    refine ok_cons (ok_mv (Or.inl rfl) (by kernel_rfl) rfl (by kernel_rfl) (by kernel_rfl)) ?_
    refine ok_cons (ok_mv (Or.inl rfl) (by kernel_rfl) rfl (by kernel_rfl) (by kernel_rfl)) ?_
    refine ok_cons (ok_call (vs := #[.int .i64 ((N : Nat) : Int)]) (R := el (dig N)) (fun w => int_pos_d hN w) rfl (by kernel_rfl) rfl (by kernel_rfl) (by kernel_rfl) (by kernel_rfl) (fun w => by kernel_rfl)) ?_
    refine ok_cons (ok_mv (Or.inl rfl) (by kernel_rfl) rfl (by kernel_rfl) (by kernel_rfl)) ?_
    refine ok_cons (ok_call (vs := #[.int .i64 ((N : Nat) : Int)]) (R := .agg (ai 22 (dg N))) (fun w => int_r hN w) rfl (by kernel_rfl) rfl (by kernel_rfl) (by kernel_rfl) (by kernel_rfl) (fun w => by kernel_rfl)) ?_
    refine ok_cons (ok_call (vs := #[el (dig N), .agg (ai 22 (dg N))]) (R := .bool true) (fun w => same_r hNp w) rfl (by kernel_rfl) rfl (by kernel_rfl) (by kernel_rfl) (by kernel_rfl) (fun w => by kernel_rfl)) ?_
    refine ok_cons (ok_pick_t rfl (by kernel_rfl) rfl (by kernel_rfl) (by kernel_rfl) (by kernel_rfl) (by kernel_rfl)) ?_
    refine ok_cons (ok_mv (Or.inl rfl) (by kernel_rfl) rfl (by kernel_rfl) (by kernel_rfl)) ?_
    refine ok_cons (ok_load (b := 0) (off := 0) (c := ck b0) (v := .agg (ck b0)) (ldK (b := b0) 23) rfl (by kernel_rfl) rfl (by kernel_rfl) (by kernel_rfl) (by kernel_rfl)) ?_
    refine ok_cons (ok_call (vs := #[.agg (ck b0)]) (R := el (dig (ofb b0))) (fun w => of_k h0 w) rfl (by kernel_rfl) rfl (by kernel_rfl) (by kernel_rfl) (by kernel_rfl) (fun w => by kernel_rfl)) ?_
    refine ok_cons (ok_call (vs := #[el (dig (ofb b0))]) (R := .bool false) (fun w => even_b (ofb_lt b0) (decide_eq_false hev) w) rfl (by kernel_rfl) rfl (by kernel_rfl) (by kernel_rfl) (by kernel_rfl) (fun w => by kernel_rfl)) ?_
    refine ok_cons (ok_iaddr (b := 1) (off := 0) (off' := 0) (u := .int .i64 ((0 : Nat) : Int)) (ix22 (i := 0) (by omega)) rfl (by kernel_rfl) rfl (by kernel_rfl) (by kernel_rfl) (by kernel_rfl) (by kernel_rfl)) ?_
    refine ok_cons (ok_load (b := 1) (off := 0) (c := ai 22 (dg (ofb b0))) (v := .int .i64 ((((dg (ofb b0)) 0) : Nat) : Int)) (ld_at (n := 22) (F := (dg (ofb b0))) (i := 0) (t0 := 25) (by omega)) rfl (by kernel_rfl) rfl (by kernel_rfl) (by kernel_rfl) (by kernel_rfl)) ?_
    refine ok_cons (ok_bin (x1 := .int .i64 ((((dg (ofb b0)) 0) : Nat) : Int)) (u1 := .int .i64 ((2 : Nat) : Int)) (v := .int .i64 (((((dg (ofb b0)) 0) % 2) : Nat) : Int)) (re_i (m := ((dg (ofb b0)) 0)) (n := 2) (by decide)) rfl (by kernel_rfl) rfl (by kernel_rfl) (by kernel_rfl) (by kernel_rfl) (by kernel_rfl) (by kernel_rfl)) ?_
    refine ok_cons (ok_bin (x1 := .int .i64 (((((dg (ofb b0)) 0) % 2) : Nat) : Int)) (u1 := .int .i64 ((0 : Nat) : Int)) (v := .bool false) (eq_i (m := (((((dg (ofb b0)) 0) % 2) : Nat) : Int)) (n := ((0 : Nat) : Int)) (decide_eq_false (by omega))) rfl (by kernel_rfl) rfl (by kernel_rfl) (by kernel_rfl) (by kernel_rfl) (by kernel_rfl) (by kernel_rfl)) ?_
    refine ok_cons (ok_bin (x1 := .bool false) (u1 := .bool false) (v := .bool true) (fun w => by kernel_rfl) rfl (by kernel_rfl) rfl (by kernel_rfl) (by kernel_rfl) (by kernel_rfl) (by kernel_rfl) (by kernel_rfl)) ?_
    refine ok_cons (ok_pick_t rfl (by kernel_rfl) rfl (by kernel_rfl) (by kernel_rfl) (by kernel_rfl) (by kernel_rfl)) ?_
    refine ok_cons (ok_mv (Or.inr rfl) (by kernel_rfl) rfl (by kernel_rfl) (by kernel_rfl)) ?_
    exact ok_nil
  clear h; intro β a w h
  refine sym_then ?_
  refine wp_ret ?_
  exact sym_ret h Try.results3 (by kernel_rfl) (by kernel_rfl) (fun hb => ⟨rfl, hb⟩)

set_option maxHeartbeats 4000000 in
theorem fieldOf_ne (b0 : Nat → Nat) (h0 : ∀ i, b0 i < 256) {m : Nat} (h1 : 1 ≤ m) (h2 : m ≤ 9223372036854775808) (hpm : pp - m < pp) (hev : ofb b0 % 2 = 0) (w : World) : Calls Try.prog 3 #[.agg (ck b0), .int .i64 (-((m : Nat) : Int))] w fun e w' => e = .returned (.bool true) ∧ Below w.heap.size w w' := by
  have g1 := dg_parity (ofb b0)
  refine sym_enter Try.func3 Try.ntmps3 rfl [.inl (.agg (ck b0)), .inl (.int .i64 (-((m : Nat) : Int))), .inl undef, .inl undef, .inl undef, .inl undef, .inl undef, .inl undef, .inl undef, .inl undef, .inl undef, .inl undef, .inl undef, .inl undef, .inl undef, .inl undef, .inl undef, .inl undef, .inl undef, .inl undef, .inl undef, .inl undef, .inl undef, .inl undef, .inl undef, .inl undef, .inl undef, .inl undef, .inl undef, .inl undef, .inl undef, .inl undef] (by kernel_rfl) (by kernel_rfl) ?_
  intro β a h
  refine sym_seq ?_
  refine St.region h [.inl (.agg (ck b0)), .inl (.int .i64 (-((m : Nat) : Int))), .inr (0, 0), .inl undef, .inl (.bool false), .inl undef, .inl undef, .inl undef, .inl undef, .inl undef, .inl undef, .inl undef, .inl undef, .inl undef, .inl undef, .inl undef, .inl undef, .inl undef, .inl undef, .inl undef, .inl undef, .inl undef, .inl undef, .inl undef, .inl undef, .inl undef, .inl undef, .inl undef, .inl undef, .inl undef, .inl undef, .inl undef] [.inl (.agg (ck b0)), .inl (.int .i64 (-((m : Nat) : Int))), .inl undef, .inl undef, .inl undef, .inl undef, .inl undef, .inl undef, .inl undef, .inl undef, .inl undef, .inl undef, .inl undef, .inl undef, .inl undef, .inl undef, .inl undef, .inl undef, .inl undef, .inl undef, .inl undef, .inl undef, .inl undef, .inl undef, .inl undef, .inl undef, .inl undef, .inl undef, .inl undef, .inl undef, .inl undef, .inl undef] [(ck b0, 23)] [(ck b0, 23)] [#[]] [⟨some 0, none, none, false⟩, ⟨none, none, none, false⟩] (by kernel_rfl) (by kernel_rfl) (by kernel_rfl) (by kernel_rfl) (by kernel_rfl) (by kernel_rfl) (by kernel_rfl) (by kernel_rfl) (by kernel_rfl) ?_ ?_
  · refine ok_cons (ok_box (b := 0) (u := .agg (ck b0)) (bxK (b := b0)) rfl (by kernel_rfl) rfl (by kernel_rfl) (by kernel_rfl) (by kernel_rfl) (by kernel_rfl)) ?_
    refine ok_cons (ok_mv (Or.inr rfl) (by kernel_rfl) rfl (by kernel_rfl) (by kernel_rfl)) ?_
    exact ok_nil
  clear h; intro β a w h
  refine sym_then ?_
  refine sym_seq ?_
  refine St.region h [.inl (.agg (ck b0)), .inl (.int .i64 (-((m : Nat) : Int))), .inr (0, 0), .inl undef, .inl (.bool false), .inr (1, 0), .inl (.agg (ck b0)), .inl (.agg (ai 22 (dg (ofb b0)))), .inl undef, .inl undef, .inl undef, .inl undef, .inl undef, .inl undef, .inl undef, .inl undef, .inl undef, .inl undef, .inl undef, .inl undef, .inl undef, .inl undef, .inl undef, .inl undef, .inl undef, .inl undef, .inl undef, .inl undef, .inl undef, .inl undef, .inl undef, .inl undef] [.inl (.agg (ck b0)), .inl (.int .i64 (-((m : Nat) : Int))), .inr (0, 0), .inl undef, .inl (.bool false), .inl undef, .inl undef, .inl undef, .inl undef, .inl undef, .inl undef, .inl undef, .inl undef, .inl undef, .inl undef, .inl undef, .inl undef, .inl undef, .inl undef, .inl undef, .inl undef, .inl undef, .inl undef, .inl undef, .inl undef, .inl undef, .inl undef, .inl undef, .inl undef, .inl undef, .inl undef, .inl undef] [(ck b0, 23), (ai 22 (dg (ofb b0)), 25)] [(ck b0, 23), (ai 22 (fun _ => 0), 25)] [#[], ai 22 (dg (ofb b0))] [⟨none, none, some 0, false⟩, ⟨none, none, none, false⟩, ⟨some 1, none, none, false⟩, ⟨none, some 1, none, false⟩] (by kernel_rfl) (by kernel_rfl) (by kernel_rfl) (by kernel_rfl) (by kernel_rfl) (by kernel_rfl) (by kernel_rfl) (by kernel_rfl) (by kernel_rfl) ?_ ?_
  · refine ok_cons (ok_load (b := 0) (off := 0) (c := ck b0) (v := .agg (ck b0)) (ldK (b := b0) 23) rfl (by kernel_rfl) rfl (by kernel_rfl) (by kernel_rfl) (by kernel_rfl)) ?_
    refine ok_cons (ok_call (vs := #[.agg (ck b0)]) (R := .agg (ai 22 (dg (ofb b0)))) (fun w => of_r h0 w) rfl (by kernel_rfl) rfl (by kernel_rfl) (by kernel_rfl) (by kernel_rfl) (fun w => by kernel_rfl)) ?_
    refine ok_cons (ok_alloc (b := 1) al22 rfl (by kernel_rfl) rfl (by kernel_rfl) (by kernel_rfl)) ?_
    refine ok_cons (ok_store (b := 1) (off := 0) (u := .agg (ai 22 (dg (ofb b0)))) (c := ai 22 (fun _ => 0)) (n := ai 22 (dg (ofb b0))) (st22 (F := (dg (ofb b0))) (c := ai 22 (fun _ => 0)) 25 (ai_size _ _)) rfl (by kernel_rfl) rfl (by kernel_rfl) (by kernel_rfl) (by kernel_rfl) (by kernel_rfl) (by kernel_rfl)) ?_
    exact ok_nil
  clear h; intro β a w h
  refine sym_then ?_
  refine sym_seq ?_
  refine St.region h [.inl (.agg (ck b0)), .inl (.int .i64 (-((m : Nat) : Int))), .inr (0, 0), .inl undef, .inl (.bool true), .inr (1, 0), .inl (.agg (ck b0)), .inl (.agg (ai 22 (dg (ofb b0)))), .inl (.bool true), .inl (.bool true), .inl (.agg (ck b0)), .inl (el (dig (ofb b0))), .inl (.agg (ai 22 (dg (ofb b0)))), .inl (.bool true), .inl (.bool true), .inl (.bool true), .inl (.int .i64 (-((m : Nat) : Int))), .inl (el (dig (pp - m))), .inl (.int .i64 (-((m : Nat) : Int))), .inl (.agg (ai 22 (dg (pp - m)))), .inl (.bool true), .inl (.bool true), .inl (.bool true), .inl (.agg (ck b0)), .inl (el (dig (ofb b0))), .inl (.bool true), .inr (1, 0), .inl (.int .i64 ((((dg (ofb b0)) 0) : Nat) : Int)), .inl (.int .i64 (((((dg (ofb b0)) 0) % 2) : Nat) : Int)), .inl (.bool true), .inl (.bool true), .inl (.bool true)] [.inl (.agg (ck b0)), .inl (.int .i64 (-((m : Nat) : Int))), .inr (0, 0), .inl undef, .inl undef, .inr (1, 0), .inl (.agg (ck b0)), .inl (.agg (ai 22 (dg (ofb b0)))), .inl undef, .inl undef, .inl undef, .inl undef, .inl undef, .inl undef, .inl undef, .inl undef, .inl undef, .inl undef, .inl undef, .inl undef, .inl undef, .inl undef, .inl undef, .inl undef, .inl undef, .inl undef, .inl undef, .inl undef, .inl undef, .inl undef, .inl undef, .inl undef] [(ck b0, 23), (ai 22 (dg (ofb b0)), 25)] [(ck b0, 23), (ai 22 (dg (ofb b0)), 25)] [#[], #[]] [⟨none, none, none, false⟩, ⟨none, none, none, false⟩, ⟨none, none, some 0, false⟩, ⟨none, none, none, false⟩, ⟨none, none, some 1, false⟩, ⟨none, none, none, false⟩, ⟨none, none, none, false⟩, ⟨none, none, none, false⟩, ⟨none, none, none, false⟩, ⟨none, none, none, false⟩, ⟨none, none, none, false⟩, ⟨none, none, none, false⟩, ⟨none, none, none, false⟩, ⟨none, none, none, false⟩, ⟨none, none, none, false⟩, ⟨none, none, some 0, false⟩, ⟨none, none, none, false⟩, ⟨none, none, none, false⟩, ⟨none, none, none, false⟩, ⟨none, none, some 1, false⟩, ⟨none, none, none, false⟩, ⟨none, none, none, false⟩, ⟨none, none, none, false⟩, ⟨none, none, none, false⟩, ⟨none, none, none, false⟩] (by kernel_rfl) (by kernel_rfl) (by kernel_rfl) (by kernel_rfl) (by kernel_rfl) (by kernel_rfl) (by kernel_rfl) (by kernel_rfl) (by kernel_rfl) ?_ ?_
  · refine ok_cons (ok_call (vs := #[]) (R := .bool true) alive_any rfl (by kernel_rfl) rfl (by kernel_rfl) (by kernel_rfl) (by kernel_rfl) (fun w => by kernel_rfl)) ?_
    refine ok_cons (ok_mv (Or.inl rfl) (by kernel_rfl) rfl (by kernel_rfl) (by kernel_rfl)) ?_
    refine ok_cons (ok_load (b := 0) (off := 0) (c := ck b0) (v := .agg (ck b0)) (ldK (b := b0) 23) rfl (by kernel_rfl) rfl (by kernel_rfl) (by kernel_rfl) (by kernel_rfl)) ?_
    refine ok_cons (ok_call (vs := #[.agg (ck b0)]) (R := el (dig (ofb b0))) (fun w => of_k h0 w) rfl (by kernel_rfl) rfl (by kernel_rfl) (by kernel_rfl) (by kernel_rfl) (fun w => by kernel_rfl)) ?_
    refine ok_cons (ok_load (b := 1) (off := 0) (c := ai 22 (dg (ofb b0))) (v := .agg (ai 22 (dg (ofb b0)))) (ld22 (F := (dg (ofb b0))) 25) rfl (by kernel_rfl) rfl (by kernel_rfl) (by kernel_rfl) (by kernel_rfl)) ?_
    refine ok_cons (ok_call (vs := #[el (dig (ofb b0)), .agg (ai 22 (dg (ofb b0)))]) (R := .bool true) (fun w => same_r (ofb_lt b0) w) rfl (by kernel_rfl) rfl (by kernel_rfl) (by kernel_rfl) (by kernel_rfl) (fun w => by kernel_rfl)) ?_
    refine ok_cons (ok_pick_t rfl (by kernel_rfl) rfl (by kernel_rfl) (by kernel_rfl) (by kernel_rfl) (by kernel_rfl)) ?_
    refine ok_cons (ok_mv (Or.inl rfl) (by kernel_rfl) rfl (by kernel_rfl) (by kernel_rfl)) ?_
    refine ok_cons (ok_mv (Or.inl rfl) (by kernel_rfl) rfl (by kernel_rfl) (by kernel_rfl)) ?_
    refine ok_cons (ok_call (vs := #[.int .i64 (-((m : Nat) : Int))]) (R := el (dig (pp - m))) (fun w => int_neg_d h1 h2 w) rfl (by kernel_rfl) rfl (by kernel_rfl) (by kernel_rfl) (by kernel_rfl) (fun w => by kernel_rfl)) ?_
    refine ok_cons (ok_mv (Or.inl rfl) (by kernel_rfl) rfl (by kernel_rfl) (by kernel_rfl)) ?_
    refine ok_cons (ok_call (vs := #[.int .i64 (-((m : Nat) : Int))]) (R := .agg (ai 22 (dg (pp - m)))) (fun w => intn_r h1 h2 w) rfl (by kernel_rfl) rfl (by kernel_rfl) (by kernel_rfl) (by kernel_rfl) (fun w => by kernel_rfl)) ?_
    refine ok_cons (ok_call (vs := #[el (dig (pp - m)), .agg (ai 22 (dg (pp - m)))]) (R := .bool true) (fun w => same_r hpm w) rfl (by kernel_rfl) rfl (by kernel_rfl) (by kernel_rfl) (by kernel_rfl) (fun w => by kernel_rfl)) ?_
    refine ok_cons (ok_pick_t rfl (by kernel_rfl) rfl (by kernel_rfl) (by kernel_rfl) (by kernel_rfl) (by kernel_rfl)) ?_
    refine ok_cons (ok_mv (Or.inl rfl) (by kernel_rfl) rfl (by kernel_rfl) (by kernel_rfl)) ?_
    refine ok_cons (ok_load (b := 0) (off := 0) (c := ck b0) (v := .agg (ck b0)) (ldK (b := b0) 23) rfl (by kernel_rfl) rfl (by kernel_rfl) (by kernel_rfl) (by kernel_rfl)) ?_
    refine ok_cons (ok_call (vs := #[.agg (ck b0)]) (R := el (dig (ofb b0))) (fun w => of_k h0 w) rfl (by kernel_rfl) rfl (by kernel_rfl) (by kernel_rfl) (by kernel_rfl) (fun w => by kernel_rfl)) ?_
    refine ok_cons (ok_call (vs := #[el (dig (ofb b0))]) (R := .bool true) (fun w => even_b (ofb_lt b0) (decide_eq_true hev) w) rfl (by kernel_rfl) rfl (by kernel_rfl) (by kernel_rfl) (by kernel_rfl) (fun w => by kernel_rfl)) ?_
    refine ok_cons (ok_iaddr (b := 1) (off := 0) (off' := 0) (u := .int .i64 ((0 : Nat) : Int)) (ix22 (i := 0) (by omega)) rfl (by kernel_rfl) rfl (by kernel_rfl) (by kernel_rfl) (by kernel_rfl) (by kernel_rfl)) ?_
    refine ok_cons (ok_load (b := 1) (off := 0) (c := ai 22 (dg (ofb b0))) (v := .int .i64 ((((dg (ofb b0)) 0) : Nat) : Int)) (ld_at (n := 22) (F := (dg (ofb b0))) (i := 0) (t0 := 25) (by omega)) rfl (by kernel_rfl) rfl (by kernel_rfl) (by kernel_rfl) (by kernel_rfl)) ?_
    refine ok_cons (ok_bin (x1 := .int .i64 ((((dg (ofb b0)) 0) : Nat) : Int)) (u1 := .int .i64 ((2 : Nat) : Int)) (v := .int .i64 (((((dg (ofb b0)) 0) % 2) : Nat) : Int)) (re_i (m := ((dg (ofb b0)) 0)) (n := 2) (by decide)) rfl (by kernel_rfl) rfl (by kernel_rfl) (by kernel_rfl) (by kernel_rfl) (by kernel_rfl) (by kernel_rfl)) ?_
    refine ok_cons (ok_bin (x1 := .int .i64 (((((dg (ofb b0)) 0) % 2) : Nat) : Int)) (u1 := .int .i64 ((0 : Nat) : Int)) (v := .bool true) (eq_i (m := (((((dg (ofb b0)) 0) % 2) : Nat) : Int)) (n := ((0 : Nat) : Int)) (decide_eq_true (by omega))) rfl (by kernel_rfl) rfl (by kernel_rfl) (by kernel_rfl) (by kernel_rfl) (by kernel_rfl) (by kernel_rfl)) ?_
    refine ok_cons (ok_bin (x1 := .bool true) (u1 := .bool true) (v := .bool true) (fun w => by kernel_rfl) rfl (by kernel_rfl) rfl (by kernel_rfl) (by kernel_rfl) (by kernel_rfl) (by kernel_rfl) (by kernel_rfl)) ?_
    refine ok_cons (ok_pick_t rfl (by kernel_rfl) rfl (by kernel_rfl) (by kernel_rfl) (by kernel_rfl) (by kernel_rfl)) ?_
    refine ok_cons (ok_mv (Or.inr rfl) (by kernel_rfl) rfl (by kernel_rfl) (by kernel_rfl)) ?_
    exact ok_nil
  clear h; intro β a w h
  refine sym_then ?_
  refine wp_ret ?_
  exact sym_ret h Try.results3 (by kernel_rfl) (by kernel_rfl) (fun hb => ⟨rfl, hb⟩)

set_option maxHeartbeats 4000000 in
theorem fieldOf_no (b0 : Nat → Nat) (h0 : ∀ i, b0 i < 256) {m : Nat} (h1 : 1 ≤ m) (h2 : m ≤ 9223372036854775808) (hpm : pp - m < pp) (hev : ¬ ofb b0 % 2 = 0) (w : World) : Calls Try.prog 3 #[.agg (ck b0), .int .i64 (-((m : Nat) : Int))] w fun e w' => e = .returned (.bool true) ∧ Below w.heap.size w w' := by
  have g1 := dg_parity (ofb b0)
  refine sym_enter Try.func3 Try.ntmps3 rfl [.inl (.agg (ck b0)), .inl (.int .i64 (-((m : Nat) : Int))), .inl undef, .inl undef, .inl undef, .inl undef, .inl undef, .inl undef, .inl undef, .inl undef, .inl undef, .inl undef, .inl undef, .inl undef, .inl undef, .inl undef, .inl undef, .inl undef, .inl undef, .inl undef, .inl undef, .inl undef, .inl undef, .inl undef, .inl undef, .inl undef, .inl undef, .inl undef, .inl undef, .inl undef, .inl undef, .inl undef] (by kernel_rfl) (by kernel_rfl) ?_
  intro β a h
  refine sym_seq ?_
  refine St.region h [.inl (.agg (ck b0)), .inl (.int .i64 (-((m : Nat) : Int))), .inr (0, 0), .inl undef, .inl (.bool false), .inl undef, .inl undef, .inl undef, .inl undef, .inl undef, .inl undef, .inl undef, .inl undef, .inl undef, .inl undef, .inl undef, .inl undef, .inl undef, .inl undef, .inl undef, .inl undef, .inl undef, .inl undef, .inl undef, .inl undef, .inl undef, .inl undef, .inl undef, .inl undef, .inl undef, .inl undef, .inl undef] [.inl (.agg (ck b0)), .inl (.int .i64 (-((m : Nat) : Int))), .inl undef, .inl undef, .inl undef, .inl undef, .inl undef, .inl undef, .inl undef, .inl undef, .inl undef, .inl undef, .inl undef, .inl undef, .inl undef, .inl undef, .inl undef, .inl undef, .inl undef, .inl undef, .inl undef, .inl undef, .inl undef, .inl undef, .inl undef, .inl undef, .inl undef, .inl undef, .inl undef, .inl undef, .inl undef, .inl undef] [(ck b0, 23)] [(ck b0, 23)] [#[]] [⟨some 0, none, none, false⟩, ⟨none, none, none, false⟩] (by kernel_rfl) (by kernel_rfl) (by kernel_rfl) (by kernel_rfl) (by kernel_rfl) (by kernel_rfl) (by kernel_rfl) (by kernel_rfl) (by kernel_rfl) ?_ ?_
  · refine ok_cons (ok_box (b := 0) (u := .agg (ck b0)) (bxK (b := b0)) rfl (by kernel_rfl) rfl (by kernel_rfl) (by kernel_rfl) (by kernel_rfl) (by kernel_rfl)) ?_
    refine ok_cons (ok_mv (Or.inr rfl) (by kernel_rfl) rfl (by kernel_rfl) (by kernel_rfl)) ?_
    exact ok_nil
  clear h; intro β a w h
  refine sym_then ?_
  refine sym_seq ?_
  refine St.region h [.inl (.agg (ck b0)), .inl (.int .i64 (-((m : Nat) : Int))), .inr (0, 0), .inl undef, .inl (.bool false), .inr (1, 0), .inl (.agg (ck b0)), .inl (.agg (ai 22 (dg (ofb b0)))), .inl undef, .inl undef, .inl undef, .inl undef, .inl undef, .inl undef, .inl undef, .inl undef, .inl undef, .inl undef, .inl undef, .inl undef, .inl undef, .inl undef, .inl undef, .inl undef, .inl undef, .inl undef, .inl undef, .inl undef, .inl undef, .inl undef, .inl undef, .inl undef] [.inl (.agg (ck b0)), .inl (.int .i64 (-((m : Nat) : Int))), .inr (0, 0), .inl undef, .inl (.bool false), .inl undef, .inl undef, .inl undef, .inl undef, .inl undef, .inl undef, .inl undef, .inl undef, .inl undef, .inl undef, .inl undef, .inl undef, .inl undef, .inl undef, .inl undef, .inl undef, .inl undef, .inl undef, .inl undef, .inl undef, .inl undef, .inl undef, .inl undef, .inl undef, .inl undef, .inl undef, .inl undef] [(ck b0, 23), (ai 22 (dg (ofb b0)), 25)] [(ck b0, 23), (ai 22 (fun _ => 0), 25)] [#[], ai 22 (dg (ofb b0))] [⟨none, none, some 0, false⟩, ⟨none, none, none, false⟩, ⟨some 1, none, none, false⟩, ⟨none, some 1, none, false⟩] (by kernel_rfl) (by kernel_rfl) (by kernel_rfl) (by kernel_rfl) (by kernel_rfl) (by kernel_rfl) (by kernel_rfl) (by kernel_rfl) (by kernel_rfl) ?_ ?_
  · refine ok_cons (ok_load (b := 0) (off := 0) (c := ck b0) (v := .agg (ck b0)) (ldK (b := b0) 23) rfl (by kernel_rfl) rfl (by kernel_rfl) (by kernel_rfl) (by kernel_rfl)) ?_
    refine ok_cons (ok_call (vs := #[.agg (ck b0)]) (R := .agg (ai 22 (dg (ofb b0)))) (fun w => of_r h0 w) rfl (by kernel_rfl) rfl (by kernel_rfl) (by kernel_rfl) (by kernel_rfl) (fun w => by kernel_rfl)) ?_
    refine ok_cons (ok_alloc (b := 1) al22 rfl (by kernel_rfl) rfl (by kernel_rfl) (by kernel_rfl)) ?_
    refine ok_cons (ok_store (b := 1) (off := 0) (u := .agg (ai 22 (dg (ofb b0)))) (c := ai 22 (fun _ => 0)) (n := ai 22 (dg (ofb b0))) (st22 (F := (dg (ofb b0))) (c := ai 22 (fun _ => 0)) 25 (ai_size _ _)) rfl (by kernel_rfl) rfl (by kernel_rfl) (by kernel_rfl) (by kernel_rfl) (by kernel_rfl) (by kernel_rfl)) ?_
    exact ok_nil
  clear h; intro β a w h
  refine sym_then ?_
  refine sym_seq ?_
  refine St.region h [.inl (.agg (ck b0)), .inl (.int .i64 (-((m : Nat) : Int))), .inr (0, 0), .inl undef, .inl (.bool true), .inr (1, 0), .inl (.agg (ck b0)), .inl (.agg (ai 22 (dg (ofb b0)))), .inl (.bool true), .inl (.bool true), .inl (.agg (ck b0)), .inl (el (dig (ofb b0))), .inl (.agg (ai 22 (dg (ofb b0)))), .inl (.bool true), .inl (.bool true), .inl (.bool true), .inl (.int .i64 (-((m : Nat) : Int))), .inl (el (dig (pp - m))), .inl (.int .i64 (-((m : Nat) : Int))), .inl (.agg (ai 22 (dg (pp - m)))), .inl (.bool true), .inl (.bool true), .inl (.bool true), .inl (.agg (ck b0)), .inl (el (dig (ofb b0))), .inl (.bool false), .inr (1, 0), .inl (.int .i64 ((((dg (ofb b0)) 0) : Nat) : Int)), .inl (.int .i64 (((((dg (ofb b0)) 0) % 2) : Nat) : Int)), .inl (.bool false), .inl (.bool true), .inl (.bool true)] [.inl (.agg (ck b0)), .inl (.int .i64 (-((m : Nat) : Int))), .inr (0, 0), .inl undef, .inl undef, .inr (1, 0), .inl (.agg (ck b0)), .inl (.agg (ai 22 (dg (ofb b0)))), .inl undef, .inl undef, .inl undef, .inl undef, .inl undef, .inl undef, .inl undef, .inl undef, .inl undef, .inl undef, .inl undef, .inl undef, .inl undef, .inl undef, .inl undef, .inl undef, .inl undef, .inl undef, .inl undef, .inl undef, .inl undef, .inl undef, .inl undef, .inl undef] [(ck b0, 23), (ai 22 (dg (ofb b0)), 25)] [(ck b0, 23), (ai 22 (dg (ofb b0)), 25)] [#[], #[]] [⟨none, none, none, false⟩, ⟨none, none, none, false⟩, ⟨none, none, some 0, false⟩, ⟨none, none, none, false⟩, ⟨none, none, some 1, false⟩, ⟨none, none, none, false⟩, ⟨none, none, none, false⟩, ⟨none, none, none, false⟩, ⟨none, none, none, false⟩, ⟨none, none, none, false⟩, ⟨none, none, none, false⟩, ⟨none, none, none, false⟩, ⟨none, none, none, false⟩, ⟨none, none, none, false⟩, ⟨none, none, none, false⟩, ⟨none, none, some 0, false⟩, ⟨none, none, none, false⟩, ⟨none, none, none, false⟩, ⟨none, none, none, false⟩, ⟨none, none, some 1, false⟩, ⟨none, none, none, false⟩, ⟨none, none, none, false⟩, ⟨none, none, none, false⟩, ⟨none, none, none, false⟩, ⟨none, none, none, false⟩] (by kernel_rfl) (by kernel_rfl) (by kernel_rfl) (by kernel_rfl) (by kernel_rfl) (by kernel_rfl) (by kernel_rfl) (by kernel_rfl) (by kernel_rfl) ?_ ?_
  · refine ok_cons (ok_call (vs := #[]) (R := .bool true) alive_any rfl (by kernel_rfl) rfl (by kernel_rfl) (by kernel_rfl) (by kernel_rfl) (fun w => by kernel_rfl)) ?_
    refine ok_cons (ok_mv (Or.inl rfl) (by kernel_rfl) rfl (by kernel_rfl) (by kernel_rfl)) ?_
    refine ok_cons (ok_load (b := 0) (off := 0) (c := ck b0) (v := .agg (ck b0)) (ldK (b := b0) 23) rfl (by kernel_rfl) rfl (by kernel_rfl) (by kernel_rfl) (by kernel_rfl)) ?_
    refine ok_cons (ok_call (vs := #[.agg (ck b0)]) (R := el (dig (ofb b0))) (fun w => of_k h0 w) rfl (by kernel_rfl) rfl (by kernel_rfl) (by kernel_rfl) (by kernel_rfl) (fun w => by kernel_rfl)) ?_
    refine ok_cons (ok_load (b := 1) (off := 0) (c := ai 22 (dg (ofb b0))) (v := .agg (ai 22 (dg (ofb b0)))) (ld22 (F := (dg (ofb b0))) 25) rfl (by kernel_rfl) rfl (by kernel_rfl) (by kernel_rfl) (by kernel_rfl)) ?_
    refine ok_cons (ok_call (vs := #[el (dig (ofb b0)), .agg (ai 22 (dg (ofb b0)))]) (R := .bool true) (fun w => same_r (ofb_lt b0) w) rfl (by kernel_rfl) rfl (by kernel_rfl) (by kernel_rfl) (by kernel_rfl) (fun w => by kernel_rfl)) ?_
    refine ok_cons (ok_pick_t rfl (by kernel_rfl) rfl (by kernel_rfl) (by kernel_rfl) (by kernel_rfl) (by kernel_rfl)) ?_
    refine ok_cons (ok_mv (Or.inl rfl) (by kernel_rfl) rfl (by kernel_rfl) (by kernel_rfl)) ?_
    refine ok_cons (ok_mv (Or.inl rfl) (by kernel_rfl) rfl (by kernel_rfl) (by kernel_rfl)) ?_
    refine ok_cons (ok_call (vs := #[.int .i64 (-((m : Nat) : Int))]) (R := el (dig (pp - m))) (fun w => int_neg_d h1 h2 w) rfl (by kernel_rfl) rfl (by kernel_rfl) (by kernel_rfl) (by kernel_rfl) (fun w => by kernel_rfl)) ?_
    refine ok_cons (ok_mv (Or.inl rfl) (by kernel_rfl) rfl (by kernel_rfl) (by kernel_rfl)) ?_
    refine ok_cons (ok_call (vs := #[.int .i64 (-((m : Nat) : Int))]) (R := .agg (ai 22 (dg (pp - m)))) (fun w => intn_r h1 h2 w) rfl (by kernel_rfl) rfl (by kernel_rfl) (by kernel_rfl) (by kernel_rfl) (fun w => by kernel_rfl)) ?_
    refine ok_cons (ok_call (vs := #[el (dig (pp - m)), .agg (ai 22 (dg (pp - m)))]) (R := .bool true) (fun w => same_r hpm w) rfl (by kernel_rfl) rfl (by kernel_rfl) (by kernel_rfl) (by kernel_rfl) (fun w => by kernel_rfl)) ?_
    refine ok_cons (ok_pick_t rfl (by kernel_rfl) rfl (by kernel_rfl) (by kernel_rfl) (by kernel_rfl) (by kernel_rfl)) ?_
    refine ok_cons (ok_mv (Or.inl rfl) (by kernel_rfl) rfl (by kernel_rfl) (by kernel_rfl)) ?_
    refine ok_cons (ok_load (b := 0) (off := 0) (c := ck b0) (v := .agg (ck b0)) (ldK (b := b0) 23) rfl (by kernel_rfl) rfl (by kernel_rfl) (by kernel_rfl) (by kernel_rfl)) ?_
    refine ok_cons (ok_call (vs := #[.agg (ck b0)]) (R := el (dig (ofb b0))) (fun w => of_k h0 w) rfl (by kernel_rfl) rfl (by kernel_rfl) (by kernel_rfl) (by kernel_rfl) (fun w => by kernel_rfl)) ?_
    refine ok_cons (ok_call (vs := #[el (dig (ofb b0))]) (R := .bool false) (fun w => even_b (ofb_lt b0) (decide_eq_false hev) w) rfl (by kernel_rfl) rfl (by kernel_rfl) (by kernel_rfl) (by kernel_rfl) (fun w => by kernel_rfl)) ?_
    refine ok_cons (ok_iaddr (b := 1) (off := 0) (off' := 0) (u := .int .i64 ((0 : Nat) : Int)) (ix22 (i := 0) (by omega)) rfl (by kernel_rfl) rfl (by kernel_rfl) (by kernel_rfl) (by kernel_rfl) (by kernel_rfl)) ?_
    refine ok_cons (ok_load (b := 1) (off := 0) (c := ai 22 (dg (ofb b0))) (v := .int .i64 ((((dg (ofb b0)) 0) : Nat) : Int)) (ld_at (n := 22) (F := (dg (ofb b0))) (i := 0) (t0 := 25) (by omega)) rfl (by kernel_rfl) rfl (by kernel_rfl) (by kernel_rfl) (by kernel_rfl)) ?_
    refine ok_cons (ok_bin (x1 := .int .i64 ((((dg (ofb b0)) 0) : Nat) : Int)) (u1 := .int .i64 ((2 : Nat) : Int)) (v := .int .i64 (((((dg (ofb b0)) 0) % 2) : Nat) : Int)) (re_i (m := ((dg (ofb b0)) 0)) (n := 2) (by decide)) rfl (by kernel_rfl) rfl (by kernel_rfl) (by kernel_rfl) (by kernel_rfl) (by kernel_rfl) (by kernel_rfl)) ?_
    refine ok_cons (ok_bin (x1 := .int .i64 (((((dg (ofb b0)) 0) % 2) : Nat) : Int)) (u1 := .int .i64 ((0 : Nat) : Int)) (v := .bool false) (eq_i (m := (((((dg (ofb b0)) 0) % 2) : Nat) : Int)) (n := ((0 : Nat) : Int)) (decide_eq_false (by omega))) rfl (by kernel_rfl) rfl (by kernel_rfl) (by kernel_rfl) (by kernel_rfl) (by kernel_rfl) (by kernel_rfl)) ?_
    refine ok_cons (ok_bin (x1 := .bool false) (u1 := .bool false) (v := .bool true) (fun w => by kernel_rfl) rfl (by kernel_rfl) rfl (by kernel_rfl) (by kernel_rfl) (by kernel_rfl) (by kernel_rfl) (by kernel_rfl)) ?_
    refine ok_cons (ok_pick_t rfl (by kernel_rfl) rfl (by kernel_rfl) (by kernel_rfl) (by kernel_rfl) (by kernel_rfl)) ?_
    refine ok_cons (ok_mv (Or.inr rfl) (by kernel_rfl) rfl (by kernel_rfl) (by kernel_rfl)) ?_
    exact ok_nil
  clear h; intro β a w h
  refine sym_then ?_
  refine wp_ret ?_
  exact sym_ret h Try.results3 (by kernel_rfl) (by kernel_rfl) (fun hb => ⟨rfl, hb⟩)

theorem fieldOf_walk (b0 : Nat → Nat) (h0 : ∀ i, b0 i < 256) (a : Int) (ha : (Lit.int .i64 a).wf = true) (w : World) : Calls Try.prog 3 #[.agg (ck b0), .int .i64 a] w fun e w' => e = .returned (.bool true) ∧ Below w.heap.size w w' := by
  simp only [Lit.wf, Bool.and_eq_true, decide_eq_true_eq] at ha
  have e1 : IntKind.i64.min = -9223372036854775808 := rfl
  have e2 : IntKind.i64.max = 9223372036854775807 := rfl
  have hp : 9223372036854775808 < pp := by decide +kernel
  rcases (show a < 0 ∨ 0 ≤ a by omega) with h | h
  · obtain ⟨m, rfl⟩ : ∃ m : Nat, a = -((m : Nat) : Int) := ⟨a.natAbs, by omega⟩
    by_cases hev : ofb b0 % 2 = 0
    · exact fieldOf_ne b0 h0 (by omega) (by omega) (by omega) hev w
    · exact fieldOf_no b0 h0 (by omega) (by omega) (by omega) hev w
  · obtain ⟨N, rfl⟩ : ∃ N : Nat, a = ((N : Nat) : Int) := ⟨a.toNat, by omega⟩
    by_cases hev : ofb b0 % 2 = 0
    · exact fieldOf_pe b0 h0 (by omega) (by omega) hev w
    · exact fieldOf_po b0 h0 (by omega) (by omega) hev w
end Go.Proofs.Ytchbkkjjbdgdoaa

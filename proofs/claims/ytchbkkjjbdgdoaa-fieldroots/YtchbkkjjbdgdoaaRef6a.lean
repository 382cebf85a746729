/- The reference's Int. -/
import Derived.Test.YtchbkkjjbdgdoaaM8
namespace Go.Proofs.Ytchbkkjjbdgdoaa
open Go.RowKit
theorem int_least {N : Nat} (hN : N < 9223372036854775808) (w : World) : Calls Try.prog 27 #[.agg (ai 44 (inF N 6))] w fun e w' => e = .returned (.agg (ai 22 (dg N))) ∧ Below w.heap.size w w' := by
  have := least_r (inF_lt N 6) (inF_pv hN) (show N < 4096 ^ 44 from Nat.lt_trans hN (by decide +kernel)) w
  have hp : 9223372036854775808 < pp := by decide +kernel
  rwa [Nat.mod_eq_of_lt (show N < pp from Nat.lt_trans hN hp)] at this
set_option maxHeartbeats 4000000 in
theorem int_r {N : Nat} (hN : N < 9223372036854775808) (W0 : World) : Calls Try.prog 14 #[.int .i64 ((N : Nat) : Int)] W0 fun e w' => e = .returned (.agg (ai 22 (dg N))) ∧ Below W0.heap.size W0 w' := by
  refine sym_enter Try.func14 Try.ntmps14 rfl [.inl (.int .i64 ((N : Nat) : Int)), .inl undef, .inl undef, .inl undef, .inl undef, .inl undef, .inl undef, .inl undef, .inl undef, .inl undef, .inl undef, .inl undef, .inl undef, .inl undef, .inl undef, .inl undef, .inl undef, .inl undef, .inl undef, .inl undef, .inl undef, .inl undef, .inl undef, .inl undef, .inl undef, .inl undef, .inl undef] (by kernel_rfl) (by kernel_rfl) ?_
  intro β a h
  refine sym_seq ?_
  refine St.region h [.inl (.int .i64 ((N : Nat) : Int)), .inl undef, .inr (0, 0), .inl undef, .inl undef, .inl undef, .inl undef, .inl undef, .inl undef, .inl undef, .inl undef, .inl undef, .inl undef, .inl undef, .inl undef, .inl undef, .inl undef, .inl undef, .inl undef, .inl undef, .inl undef, .inl undef, .inl undef, .inl undef, .inl undef, .inl undef, .inl undef] [.inl (.int .i64 ((N : Nat) : Int)), .inl undef, .inl undef, .inl undef, .inl undef, .inl undef, .inl undef, .inl undef, .inl undef, .inl undef, .inl undef, .inl undef, .inl undef, .inl undef, .inl undef, .inl undef, .inl undef, .inl undef, .inl undef, .inl undef, .inl undef, .inl undef, .inl undef, .inl undef, .inl undef, .inl undef, .inl undef] [(ai 22 (fun _ => 0), 25)] [(ai 22 (fun _ => 0), 25)] [#[]] [⟨some 0, none, none, false⟩] (by kernel_rfl) (by kernel_rfl) (by kernel_rfl) (by kernel_rfl) (by kernel_rfl) (by kernel_rfl) (by kernel_rfl) (by kernel_rfl) (by kernel_rfl) ?_ ?_
  · refine ok_cons (ok_alloc (b := 0) al22 rfl (by kernel_rfl) rfl (by kernel_rfl) (by kernel_rfl)) ?_
    exact ok_nil
  clear h; intro β a w h
  refine sym_then ?_
  refine sym_seq ?_
  refine sym_seq ?_
  refine St.region h [.inl (.int .i64 ((N : Nat) : Int)), .inl undef, .inr (0, 0), .inl undef, .inl undef, .inl (.int .i64 ((N : Nat) : Int)), .inl (.bool false), .inl undef, .inl undef, .inl undef, .inl undef, .inl undef, .inl undef, .inl undef, .inl undef, .inl undef, .inl undef, .inl undef, .inl undef, .inl undef, .inl undef, .inl undef, .inl undef, .inl undef, .inl undef, .inl undef, .inl undef] [.inl (.int .i64 ((N : Nat) : Int)), .inl undef, .inr (0, 0), .inl undef, .inl undef, .inl undef, .inl undef, .inl undef, .inl undef, .inl undef, .inl undef, .inl undef, .inl undef, .inl undef, .inl undef, .inl undef, .inl undef, .inl undef, .inl undef, .inl undef, .inl undef, .inl undef, .inl undef, .inl undef, .inl undef, .inl undef, .inl undef] [(ai 22 (fun _ => 0), 25)] [(ai 22 (fun _ => 0), 25)] [#[]] [⟨none, none, none, false⟩, ⟨none, none, none, false⟩] (by kernel_rfl) (by kernel_rfl) (by kernel_rfl) (by kernel_rfl) (by kernel_rfl) (by kernel_rfl) (by kernel_rfl) (by kernel_rfl) (by kernel_rfl) ?_ ?_
  · refine ok_cons (ok_mv (Or.inl rfl) (by kernel_rfl) rfl (by kernel_rfl) (by kernel_rfl)) ?_
    refine ok_cons (ok_bin (x1 := .int .i64 ((N : Nat) : Int)) (u1 := .int .i64 ((0 : Nat) : Int)) (v := .bool false) (lt_i (m := ((N : Nat) : Int)) (n := ((0 : Nat) : Int)) (decide_eq_false (by omega))) rfl (by kernel_rfl) rfl (by kernel_rfl) (by kernel_rfl) (by kernel_rfl) (by kernel_rfl) (by kernel_rfl)) ?_
    exact ok_nil
  clear h; intro β a w h
  refine sym_then ?_
  refine sym_cond_f h (by kernel_rfl) (by kernel_rfl) ?_
  refine wp_skip ?_
  refine sym_then ?_
  refine sym_seq ?_
  refine St.region h [.inl (.int .i64 ((N : Nat) : Int)), .inl undef, .inr (0, 0), .inr (1, 0), .inl undef, .inl (.int .i64 ((N : Nat) : Int)), .inl (.bool false), .inl undef, .inl undef, .inl undef, .inl undef, .inl undef, .inl undef, .inl undef, .inl undef, .inl undef, .inl undef, .inl undef, .inl undef, .inl undef, .inl undef, .inl undef, .inl undef, .inl undef, .inl undef, .inl undef, .inl undef] [.inl (.int .i64 ((N : Nat) : Int)), .inl undef, .inr (0, 0), .inl undef, .inl undef, .inl (.int .i64 ((N : Nat) : Int)), .inl (.bool false), .inl undef, .inl undef, .inl undef, .inl undef, .inl undef, .inl undef, .inl undef, .inl undef, .inl undef, .inl undef, .inl undef, .inl undef, .inl undef, .inl undef, .inl undef, .inl undef, .inl undef, .inl undef, .inl undef, .inl undef] [(ai 22 (fun _ => 0), 25), (ai 44 (fun _ => 0), 48)] [(ai 22 (fun _ => 0), 25), (ai 44 (fun _ => 0), 48)] [#[], #[]] [⟨some 1, none, none, false⟩] (by kernel_rfl) (by kernel_rfl) (by kernel_rfl) (by kernel_rfl) (by kernel_rfl) (by kernel_rfl) (by kernel_rfl) (by kernel_rfl) (by kernel_rfl) ?_ ?_
  · refine ok_cons (ok_alloc (b := 1) al44 rfl (by kernel_rfl) rfl (by kernel_rfl) (by kernel_rfl)) ?_
    exact ok_nil
  clear h; intro β a w h
  refine sym_then ?_
  refine sym_seq ?_
  refine sym_seq ?_
  refine St.region h [.inl (.int .i64 ((N : Nat) : Int)), .inl undef, .inr (0, 0), .inr (1, 0), .inl (.int .i64 ((0 : Nat) : Int)), .inl (.int .i64 ((N : Nat) : Int)), .inl (.bool false), .inl undef, .inl undef, .inl undef, .inl undef, .inl undef, .inl undef, .inl undef, .inl undef, .inl undef, .inl undef, .inl undef, .inl undef, .inl undef, .inl undef, .inl undef, .inl undef, .inl undef, .inl undef, .inl undef, .inl undef] [.inl (.int .i64 ((N : Nat) : Int)), .inl undef, .inr (0, 0), .inr (1, 0), .inl undef, .inl (.int .i64 ((N : Nat) : Int)), .inl (.bool false), .inl undef, .inl undef, .inl undef, .inl undef, .inl undef, .inl undef, .inl undef, .inl undef, .inl undef, .inl undef, .inl undef, .inl undef, .inl undef, .inl undef, .inl undef, .inl undef, .inl undef, .inl undef, .inl undef, .inl undef] [(ai 22 (fun _ => 0), 25), (ai 44 (fun _ => 0), 48)] [(ai 22 (fun _ => 0), 25), (ai 44 (fun _ => 0), 48)] [#[], #[]] [⟨none, none, none, false⟩] (by kernel_rfl) (by kernel_rfl) (by kernel_rfl) (by kernel_rfl) (by kernel_rfl) (by kernel_rfl) (by kernel_rfl) (by kernel_rfl) (by kernel_rfl) ?_ ?_
  · refine ok_cons (ok_mv (Or.inr rfl) (by kernel_rfl) rfl (by kernel_rfl) (by kernel_rfl)) ?_
    exact ok_nil
  clear h; intro β a w h
  refine sym_then ?_
  refine blk_in ?_
  replace h := St.setm h 1 (c := ai 44 (fun _ => 0)) (c' := ai 44 (inF N 0)) (t := 48) (m' := [(ai 22 (fun _ => 0), 25), (ai 44 (inF N 0), 48)]) (inF_zero N) (by kernel_rfl) (by kernel_rfl)
  replace h := St.sets h 0 (v := .int .i64 ((N : Nat) : Int)) (v' := .int .i64 (((nq N 0) : Nat) : Int)) (s' := [.inl (.int .i64 (((nq N 0) : Nat) : Int)), .inl undef, .inr (0, 0), .inr (1, 0), .inl (.int .i64 ((0 : Nat) : Int)), .inl (.int .i64 ((N : Nat) : Int)), .inl (.bool false), .inl undef, .inl undef, .inl undef, .inl undef, .inl undef, .inl undef, .inl undef, .inl undef, .inl undef, .inl undef, .inl undef, .inl undef, .inl undef, .inl undef, .inl undef, .inl undef, .inl undef, .inl undef, .inl undef, .inl undef]) (ic (nq_zero N)) (by kernel_rfl) (by kernel_rfl)
  refine loop_up 6 (fun k a w => ∃ (x15 x16 x17 x18 x19 x20 x21 x22 x23 x24 : SV) (β : Nat → Nat), St W0 [.inl (.int .i64 (((nq N k) : Nat) : Int)), .inl undef, .inr (0, 0), .inr (1, 0), .inl (.int .i64 ((k : Nat) : Int)), .inl (.int .i64 ((N : Nat) : Int)), .inl (.bool false), .inl undef, .inl undef, .inl undef, .inl undef, .inl undef, .inl undef, .inl undef, .inl undef, x15, x16, x17, x18, x19, x20, x21, x22, x23, x24, .inl undef, .inl undef] [(ai 22 (fun _ => 0), 25), (ai 44 (inF N k), 48)] β a w) ⟨_, _, _, _, _, _, _, _, _, _, β, h⟩ ?_
  clear h; rintro k a w hkk ⟨x15, x16, x17, x18, x19, x20, x21, x22, x23, x24, β, h⟩
  have g1 := nq_le N k
  rcases Nat.lt_or_ge k 6 with hltk | hgek
  · refine sym_seq ?_
    refine sym_seq ?_
    refine St.region h [.inl (.int .i64 (((nq N k) : Nat) : Int)), .inl undef, .inr (0, 0), .inr (1, 0), .inl (.int .i64 ((k : Nat) : Int)), .inl (.int .i64 ((N : Nat) : Int)), .inl (.bool false), .inl undef, .inl undef, .inl undef, .inl undef, .inl undef, .inl undef, .inl undef, .inl undef, .inl (.int .i64 ((k : Nat) : Int)), .inl (.bool true), x17, x18, x19, x20, x21, x22, x23, x24, .inl undef, .inl undef] [.inl (.int .i64 (((nq N k) : Nat) : Int)), .inl undef, .inr (0, 0), .inr (1, 0), .inl (.int .i64 ((k : Nat) : Int)), .inl (.int .i64 ((N : Nat) : Int)), .inl (.bool false), .inl undef, .inl undef, .inl undef, .inl undef, .inl undef, .inl undef, .inl undef, .inl undef, .inl undef, .inl undef, x17, x18, x19, x20, x21, x22, x23, x24, .inl undef, .inl undef] [(ai 22 (fun _ => 0), 25), (ai 44 (inF N k), 48)] [(ai 22 (fun _ => 0), 25), (ai 44 (inF N k), 48)] [#[], #[]] [⟨none, none, none, false⟩, ⟨none, none, none, false⟩] (by kernel_rfl) (by kernel_rfl) (by kernel_rfl) (by kernel_rfl) (by kernel_rfl) (by kernel_rfl) (by kernel_rfl) (by kernel_rfl) (by kernel_rfl) ?_ ?_
    · refine ok_cons (ok_mv (Or.inl rfl) (by kernel_rfl) rfl (by kernel_rfl) (by kernel_rfl)) ?_
      refine ok_cons (ok_bin (x1 := .int .i64 ((k : Nat) : Int)) (u1 := .int .i64 ((6 : Nat) : Int)) (v := .bool true) (lt_i (m := ((k : Nat) : Int)) (n := ((6 : Nat) : Int)) (decide_eq_true (by omega))) rfl (by kernel_rfl) rfl (by kernel_rfl) (by kernel_rfl) (by kernel_rfl) (by kernel_rfl) (by kernel_rfl)) ?_
      exact ok_nil
    clear h; intro β a w h
    refine sym_then ?_
    refine sym_cond_t h (by kernel_rfl) (by kernel_rfl) ?_
    refine wp_skip ?_
    refine sym_then ?_
    refine sym_seq ?_
    refine blk_in ?_
    refine sym_seq ?_
    refine St.region h [.inl (.int .i64 (((nq N k) : Nat) : Int)), .inl undef, .inr (0, 0), .inr (1, 0), .inl (.int .i64 ((k : Nat) : Int)), .inl (.int .i64 ((N : Nat) : Int)), .inl (.bool false), .inl undef, .inl undef, .inl undef, .inl undef, .inl undef, .inl undef, .inl undef, .inl undef, .inl (.int .i64 ((k : Nat) : Int)), .inl (.bool true), x17, x18, .inl (.int .i64 ((k : Nat) : Int)), .inl (.int .i64 (((nq N k) : Nat) : Int)), .inl (.int .i64 ((((nq N k) % 4096) : Nat) : Int)), .inr (1, k), x23, x24, .inl undef, .inl undef] [.inl (.int .i64 (((nq N k) : Nat) : Int)), .inl undef, .inr (0, 0), .inr (1, 0), .inl (.int .i64 ((k : Nat) : Int)), .inl (.int .i64 ((N : Nat) : Int)), .inl (.bool false), .inl undef, .inl undef, .inl undef, .inl undef, .inl undef, .inl undef, .inl undef, .inl undef, .inl (.int .i64 ((k : Nat) : Int)), .inl (.bool true), x17, x18, .inl undef, .inl undef, .inl undef, .inl undef, x23, x24, .inl undef, .inl undef] [(ai 22 (fun _ => 0), 25), (ai 44 (updN (inF N k) k ((nq N k) % 4096)), 48)] [(ai 22 (fun _ => 0), 25), (ai 44 (inF N k), 48)] [#[], ai 44 (updN (inF N k) k ((nq N k) % 4096))] [⟨none, none, none, false⟩, ⟨none, none, none, false⟩, ⟨none, none, none, false⟩, ⟨none, none, none, false⟩, ⟨none, some 1, none, false⟩] (by kernel_rfl) (by kernel_rfl) (by kernel_rfl) (by kernel_rfl) (by kernel_rfl) (by kernel_rfl) (by kernel_rfl) (by kernel_rfl) (by kernel_rfl) ?_ ?_
    · refine ok_cons (ok_mv (Or.inl rfl) (by kernel_rfl) rfl (by kernel_rfl) (by kernel_rfl)) ?_
      refine ok_cons (ok_mv (Or.inl rfl) (by kernel_rfl) rfl (by kernel_rfl) (by kernel_rfl)) ?_
      refine ok_cons (ok_bin (x1 := .int .i64 (((nq N k) : Nat) : Int)) (u1 := .int .i64 ((4096 : Nat) : Int)) (v := .int .i64 ((((nq N k) % 4096) : Nat) : Int)) (re_i (m := (nq N k)) (n := 4096) (by decide)) rfl (by kernel_rfl) rfl (by kernel_rfl) (by kernel_rfl) (by kernel_rfl) (by kernel_rfl) (by kernel_rfl)) ?_
      refine ok_cons (ok_iaddr (b := 1) (off := 0) (off' := k) (u := .int .i64 ((k : Nat) : Int)) (ix44 (i := k) (by omega)) rfl (by kernel_rfl) rfl (by kernel_rfl) (by kernel_rfl) (by kernel_rfl) (by kernel_rfl)) ?_
      refine ok_cons (ok_store (b := 1) (off := k) (u := .int .i64 ((((nq N k) % 4096) : Nat) : Int)) (c := ai 44 (inF N k)) (n := ai 44 (updN (inF N k) k ((nq N k) % 4096))) (st_at (n := 44) (F := (inF N k)) (i := k) (v := ((nq N k) % 4096)) (t0 := 48) (by omega)) rfl (by kernel_rfl) rfl (by kernel_rfl) (by kernel_rfl) (by kernel_rfl) (by kernel_rfl) (by kernel_rfl)) ?_
      exact ok_nil
    clear h; intro β a w h
    refine sym_then ?_
    refine St.region h [.inl (.int .i64 ((((nq N k) / 4096) : Nat) : Int)), .inl undef, .inr (0, 0), .inr (1, 0), .inl (.int .i64 ((k : Nat) : Int)), .inl (.int .i64 ((N : Nat) : Int)), .inl (.bool false), .inl undef, .inl undef, .inl undef, .inl undef, .inl undef, .inl undef, .inl undef, .inl undef, .inl (.int .i64 ((k : Nat) : Int)), .inl (.bool true), x17, x18, .inl (.int .i64 ((k : Nat) : Int)), .inl (.int .i64 (((nq N k) : Nat) : Int)), .inl (.int .i64 ((((nq N k) % 4096) : Nat) : Int)), .inr (1, k), .inl (.int .i64 (((nq N k) : Nat) : Int)), .inl (.int .i64 ((((nq N k) / 4096) : Nat) : Int)), .inl undef, .inl undef] [.inl undef, .inl undef, .inr (0, 0), .inr (1, 0), .inl (.int .i64 ((k : Nat) : Int)), .inl (.int .i64 ((N : Nat) : Int)), .inl (.bool false), .inl undef, .inl undef, .inl undef, .inl undef, .inl undef, .inl undef, .inl undef, .inl undef, .inl (.int .i64 ((k : Nat) : Int)), .inl (.bool true), x17, x18, .inl (.int .i64 ((k : Nat) : Int)), .inl (.int .i64 (((nq N k) : Nat) : Int)), .inl (.int .i64 ((((nq N k) % 4096) : Nat) : Int)), .inr (1, k), .inl undef, .inl undef, .inl undef, .inl undef] [(ai 22 (fun _ => 0), 25), (ai 44 (updN (inF N k) k ((nq N k) % 4096)), 48)] [(ai 22 (fun _ => 0), 25), (ai 44 (updN (inF N k) k ((nq N k) % 4096)), 48)] [#[], #[]] [⟨none, none, none, true⟩, ⟨none, none, none, false⟩, ⟨none, none, none, false⟩] (by kernel_rfl) (by kernel_rfl) (by kernel_rfl) (by kernel_rfl) (by kernel_rfl) (by kernel_rfl) (by kernel_rfl) (by kernel_rfl) (by kernel_rfl) ?_ ?_
    · refine ok_cons (ok_mv0 rfl (by kernel_rfl) rfl (by kernel_rfl) (by kernel_rfl)) ?_
      refine ok_cons (ok_bin (x1 := .int .i64 (((nq N k) : Nat) : Int)) (u1 := .int .i64 ((4096 : Nat) : Int)) (v := .int .i64 ((((nq N k) / 4096) : Nat) : Int)) (qu_i (m := (nq N k)) (n := 4096) (by decide) (by omega)) rfl (by kernel_rfl) rfl (by kernel_rfl) (by kernel_rfl) (by kernel_rfl) (by kernel_rfl) (by kernel_rfl)) ?_
      refine ok_cons (ok_mv (Or.inr rfl) (by kernel_rfl) rfl (by kernel_rfl) (by kernel_rfl)) ?_
      exact ok_nil
    clear h; intro β a w h
    refine blk_norm ?_
    refine sym_then ?_
    refine St.region h [.inl (.int .i64 ((((nq N k) / 4096) : Nat) : Int)), .inl undef, .inr (0, 0), .inr (1, 0), .inl (.int .i64 (((k + 1) : Nat) : Int)), .inl (.int .i64 ((N : Nat) : Int)), .inl (.bool false), .inl undef, .inl undef, .inl undef, .inl undef, .inl undef, .inl undef, .inl undef, .inl undef, .inl (.int .i64 ((k : Nat) : Int)), .inl (.bool true), .inl (.int .i64 ((k : Nat) : Int)), .inl (.int .i64 (((k + 1) : Nat) : Int)), .inl (.int .i64 ((k : Nat) : Int)), .inl (.int .i64 (((nq N k) : Nat) : Int)), .inl (.int .i64 ((((nq N k) % 4096) : Nat) : Int)), .inr (1, k), .inl (.int .i64 (((nq N k) : Nat) : Int)), .inl (.int .i64 ((((nq N k) / 4096) : Nat) : Int)), .inl undef, .inl undef] [.inl (.int .i64 ((((nq N k) / 4096) : Nat) : Int)), .inl undef, .inr (0, 0), .inr (1, 0), .inl undef, .inl (.int .i64 ((N : Nat) : Int)), .inl (.bool false), .inl undef, .inl undef, .inl undef, .inl undef, .inl undef, .inl undef, .inl undef, .inl undef, .inl (.int .i64 ((k : Nat) : Int)), .inl (.bool true), .inl undef, .inl undef, .inl (.int .i64 ((k : Nat) : Int)), .inl (.int .i64 (((nq N k) : Nat) : Int)), .inl (.int .i64 ((((nq N k) % 4096) : Nat) : Int)), .inr (1, k), .inl (.int .i64 (((nq N k) : Nat) : Int)), .inl (.int .i64 ((((nq N k) / 4096) : Nat) : Int)), .inl undef, .inl undef] [(ai 22 (fun _ => 0), 25), (ai 44 (updN (inF N k) k ((nq N k) % 4096)), 48)] [(ai 22 (fun _ => 0), 25), (ai 44 (updN (inF N k) k ((nq N k) % 4096)), 48)] [#[], #[]] [⟨none, none, none, true⟩, ⟨none, none, none, false⟩, ⟨none, none, none, false⟩] (by kernel_rfl) (by kernel_rfl) (by kernel_rfl) (by kernel_rfl) (by kernel_rfl) (by kernel_rfl) (by kernel_rfl) (by kernel_rfl) (by kernel_rfl) ?_ ?_
    · refine ok_cons (ok_mv0 rfl (by kernel_rfl) rfl (by kernel_rfl) (by kernel_rfl)) ?_
      refine ok_cons (ok_bin (x1 := .int .i64 ((k : Nat) : Int)) (u1 := .int .i64 ((1 : Nat) : Int)) (v := .int .i64 (((k + 1) : Nat) : Int)) (ad_i (m := k) (n := 1) (by omega)) rfl (by kernel_rfl) rfl (by kernel_rfl) (by kernel_rfl) (by kernel_rfl) (by kernel_rfl) (by kernel_rfl)) ?_
      refine ok_cons (ok_mv (Or.inr rfl) (by kernel_rfl) rfl (by kernel_rfl) (by kernel_rfl)) ?_
      exact ok_nil
    clear h; intro β a w h
    replace h := St.setm h 1 (c := ai 44 (updN (inF N k) k ((nq N k) % 4096))) (c' := ai 44 (inF N (k + 1))) (t := 48) (m' := [(ai 22 (fun _ => 0), 25), (ai 44 (inF N (k + 1)), 48)]) (inF_next N k) (by kernel_rfl) (by kernel_rfl)
    replace h := St.sets h 0 (v := .int .i64 ((((nq N k) / 4096) : Nat) : Int)) (v' := .int .i64 (((nq N (k + 1)) : Nat) : Int)) (s' := [.inl (.int .i64 (((nq N (k + 1)) : Nat) : Int)), .inl undef, .inr (0, 0), .inr (1, 0), .inl (.int .i64 (((k + 1) : Nat) : Int)), .inl (.int .i64 ((N : Nat) : Int)), .inl (.bool false), .inl undef, .inl undef, .inl undef, .inl undef, .inl undef, .inl undef, .inl undef, .inl undef, .inl (.int .i64 ((k : Nat) : Int)), .inl (.bool true), .inl (.int .i64 ((k : Nat) : Int)), .inl (.int .i64 (((k + 1) : Nat) : Int)), .inl (.int .i64 ((k : Nat) : Int)), .inl (.int .i64 (((nq N k) : Nat) : Int)), .inl (.int .i64 ((((nq N k) % 4096) : Nat) : Int)), .inr (1, k), .inl (.int .i64 (((nq N k) : Nat) : Int)), .inl (.int .i64 ((((nq N k) / 4096) : Nat) : Int)), .inl undef, .inl undef]) (ic (nq_next N k)) (by kernel_rfl) (by kernel_rfl)
    exact ⟨hltk, _, _, _, _, _, _, _, _, _, _, _, h⟩
  · obtain rfl : k = 6 := by omega
    refine sym_seq ?_
    refine sym_seq ?_
    refine St.region h [.inl (.int .i64 (((nq N 6) : Nat) : Int)), .inl undef, .inr (0, 0), .inr (1, 0), .inl (.int .i64 ((6 : Nat) : Int)), .inl (.int .i64 ((N : Nat) : Int)), .inl (.bool false), .inl undef, .inl undef, .inl undef, .inl undef, .inl undef, .inl undef, .inl undef, .inl undef, .inl (.int .i64 ((6 : Nat) : Int)), .inl (.bool false), x17, x18, x19, x20, x21, x22, x23, x24, .inl undef, .inl undef] [.inl (.int .i64 (((nq N 6) : Nat) : Int)), .inl undef, .inr (0, 0), .inr (1, 0), .inl (.int .i64 ((6 : Nat) : Int)), .inl (.int .i64 ((N : Nat) : Int)), .inl (.bool false), .inl undef, .inl undef, .inl undef, .inl undef, .inl undef, .inl undef, .inl undef, .inl undef, .inl undef, .inl undef, x17, x18, x19, x20, x21, x22, x23, x24, .inl undef, .inl undef] [(ai 22 (fun _ => 0), 25), (ai 44 (inF N 6), 48)] [(ai 22 (fun _ => 0), 25), (ai 44 (inF N 6), 48)] [#[], #[]] [⟨none, none, none, false⟩, ⟨none, none, none, false⟩] (by kernel_rfl) (by kernel_rfl) (by kernel_rfl) (by kernel_rfl) (by kernel_rfl) (by kernel_rfl) (by kernel_rfl) (by kernel_rfl) (by kernel_rfl) ?_ ?_
    · refine ok_cons (ok_mv (Or.inl rfl) (by kernel_rfl) rfl (by kernel_rfl) (by kernel_rfl)) ?_
      refine ok_cons (ok_bin (x1 := .int .i64 ((6 : Nat) : Int)) (u1 := .int .i64 ((6 : Nat) : Int)) (v := .bool false) (lt_i (m := ((6 : Nat) : Int)) (n := ((6 : Nat) : Int)) (decide_eq_false (by omega))) rfl (by kernel_rfl) rfl (by kernel_rfl) (by kernel_rfl) (by kernel_rfl) (by kernel_rfl) (by kernel_rfl)) ?_
      exact ok_nil
    clear h; intro β a w h
    refine sym_then ?_
    refine sym_cond_f h (by kernel_rfl) (by kernel_rfl) ?_
    refine wp_exit ?_
    refine then_exit ?_
    refine then_exit ?_
    refine blk_exit ?_
    refine sym_then ?_
    refine sym_seq ?_
    refine St.region h [.inl (.int .i64 (((nq N 6) : Nat) : Int)), .inl undef, .inr (0, 0), .inr (1, 0), .inl (.int .i64 ((6 : Nat) : Int)), .inl (.int .i64 ((N : Nat) : Int)), .inl (.bool false), .inl undef, .inl undef, .inl undef, .inl undef, .inl undef, .inl undef, .inl undef, .inl undef, .inl (.int .i64 ((6 : Nat) : Int)), .inl (.bool false), x17, x18, x19, x20, x21, x22, x23, x24, .inl (.agg (ai 44 (inF N 6))), .inl (.agg (ai 22 (dg N)))] [.inl (.int .i64 (((nq N 6) : Nat) : Int)), .inl undef, .inr (0, 0), .inr (1, 0), .inl (.int .i64 ((6 : Nat) : Int)), .inl (.int .i64 ((N : Nat) : Int)), .inl (.bool false), .inl undef, .inl undef, .inl undef, .inl undef, .inl undef, .inl undef, .inl undef, .inl undef, .inl (.int .i64 ((6 : Nat) : Int)), .inl (.bool false), x17, x18, x19, x20, x21, x22, x23, x24, .inl undef, .inl undef] [(ai 22 (dg N), 25), (ai 44 (inF N 6), 48)] [(ai 22 (fun _ => 0), 25), (ai 44 (inF N 6), 48)] [ai 22 (dg N), #[]] [⟨none, none, some 1, false⟩, ⟨none, none, none, false⟩, ⟨none, some 0, none, false⟩] (by kernel_rfl) (by kernel_rfl) (by kernel_rfl) (by kernel_rfl) (by kernel_rfl) (by kernel_rfl) (by kernel_rfl) (by kernel_rfl) (by kernel_rfl) ?_ ?_
    · refine ok_cons (ok_load (b := 1) (off := 0) (c := ai 44 (inF N 6)) (v := .agg (ai 44 (inF N 6))) (ld44 (F := (inF N 6)) 48) rfl (by kernel_rfl) rfl (by kernel_rfl) (by kernel_rfl) (by kernel_rfl)) ?_
      refine ok_cons (ok_call (vs := #[.agg (ai 44 (inF N 6))]) (R := .agg (ai 22 (dg N))) (fun w => int_least hN w) rfl (by kernel_rfl) rfl (by kernel_rfl) (by kernel_rfl) (by kernel_rfl) (fun w => by kernel_rfl)) ?_
      refine ok_cons (ok_store (b := 0) (off := 0) (u := .agg (ai 22 (dg N))) (c := ai 22 (fun _ => 0)) (n := ai 22 (dg N)) (st22 (F := (dg N)) (c := ai 22 (fun _ => 0)) 25 (ai_size _ _)) rfl (by kernel_rfl) rfl (by kernel_rfl) (by kernel_rfl) (by kernel_rfl) (by kernel_rfl) (by kernel_rfl)) ?_
      exact ok_nil
    clear h; intro β a w h
    refine sym_then ?_
    refine wp_ret ?_
    exact sym_retc (b := 0) (t0 := 25) (c := ai 22 (dg N)) h Try.results14 (by kernel_rfl) (by kernel_rfl) (by kernel_rfl) Try.underlying25 rfl (by rw [ai_size]; kernel_rfl) (fun hb => ⟨rfl, hb⟩)
set_option maxHeartbeats 4000000 in
theorem intn_r {m : Nat} (h1 : 1 ≤ m) (h2 : m ≤ 9223372036854775808) (W0 : World) : Calls Try.prog 14 #[.int .i64 (-((m : Nat) : Int))] W0 fun e w' => e = .returned (.agg (ai 22 (dg (pp - m)))) ∧ Below W0.heap.size W0 w' := by
  have hm1 : m - 1 < pp := Nat.lt_of_le_of_lt (show m - 1 ≤ 9223372036854775808 by omega) (by decide +kernel)
  rw [← neg_eq h1 h2]
  refine sym_enter Try.func14 Try.ntmps14 rfl [.inl (.int .i64 (-((m : Nat) : Int))), .inl undef, .inl undef, .inl undef, .inl undef, .inl undef, .inl undef, .inl undef, .inl undef, .inl undef, .inl undef, .inl undef, .inl undef, .inl undef, .inl undef, .inl undef, .inl undef, .inl undef, .inl undef, .inl undef, .inl undef, .inl undef, .inl undef, .inl undef, .inl undef, .inl undef, .inl undef] (by kernel_rfl) (by kernel_rfl) ?_
  intro β a h
  refine sym_seq ?_
  refine St.region h [.inl (.int .i64 (-((m : Nat) : Int))), .inl undef, .inr (0, 0), .inl undef, .inl undef, .inl undef, .inl undef, .inl undef, .inl undef, .inl undef, .inl undef, .inl undef, .inl undef, .inl undef, .inl undef, .inl undef, .inl undef, .inl undef, .inl undef, .inl undef, .inl undef, .inl undef, .inl undef, .inl undef, .inl undef, .inl undef, .inl undef] [.inl (.int .i64 (-((m : Nat) : Int))), .inl undef, .inl undef, .inl undef, .inl undef, .inl undef, .inl undef, .inl undef, .inl undef, .inl undef, .inl undef, .inl undef, .inl undef, .inl undef, .inl undef, .inl undef, .inl undef, .inl undef, .inl undef, .inl undef, .inl undef, .inl undef, .inl undef, .inl undef, .inl undef, .inl undef, .inl undef] [(ai 22 (fun _ => 0), 25)] [(ai 22 (fun _ => 0), 25)] [#[]] [⟨some 0, none, none, false⟩] (by kernel_rfl) (by kernel_rfl) (by kernel_rfl) (by kernel_rfl) (by kernel_rfl) (by kernel_rfl) (by kernel_rfl) (by kernel_rfl) (by kernel_rfl) ?_ ?_
  · refine ok_cons (ok_alloc (b := 0) al22 rfl (by kernel_rfl) rfl (by kernel_rfl) (by kernel_rfl)) ?_
    exact ok_nil
  clear h; intro β a w h
  refine sym_then ?_
  refine sym_seq ?_
  refine sym_seq ?_
  refine St.region h [.inl (.int .i64 (-((m : Nat) : Int))), .inl undef, .inr (0, 0), .inl undef, .inl undef, .inl (.int .i64 (-((m : Nat) : Int))), .inl (.bool true), .inl undef, .inl undef, .inl undef, .inl undef, .inl undef, .inl undef, .inl undef, .inl undef, .inl undef, .inl undef, .inl undef, .inl undef, .inl undef, .inl undef, .inl undef, .inl undef, .inl undef, .inl undef, .inl undef, .inl undef] [.inl (.int .i64 (-((m : Nat) : Int))), .inl undef, .inr (0, 0), .inl undef, .inl undef, .inl undef, .inl undef, .inl undef, .inl undef, .inl undef, .inl undef, .inl undef, .inl undef, .inl undef, .inl undef, .inl undef, .inl undef, .inl undef, .inl undef, .inl undef, .inl undef, .inl undef, .inl undef, .inl undef, .inl undef, .inl undef, .inl undef] [(ai 22 (fun _ => 0), 25)] [(ai 22 (fun _ => 0), 25)] [#[]] [⟨none, none, none, false⟩, ⟨none, none, none, false⟩] (by kernel_rfl) (by kernel_rfl) (by kernel_rfl) (by kernel_rfl) (by kernel_rfl) (by kernel_rfl) (by kernel_rfl) (by kernel_rfl) (by kernel_rfl) ?_ ?_
  · refine ok_cons (ok_mv (Or.inl rfl) (by kernel_rfl) rfl (by kernel_rfl) (by kernel_rfl)) ?_
    refine ok_cons (ok_bin (x1 := .int .i64 (-((m : Nat) : Int))) (u1 := .int .i64 ((0 : Nat) : Int)) (v := .bool true) (lt_i (m := -((m : Nat) : Int)) (n := ((0 : Nat) : Int)) (decide_eq_true (by omega))) rfl (by kernel_rfl) rfl (by kernel_rfl) (by kernel_rfl) (by kernel_rfl) (by kernel_rfl) (by kernel_rfl)) ?_
    exact ok_nil
  clear h; intro β a w h
  refine sym_then ?_
  refine sym_cond_t h (by kernel_rfl) (by kernel_rfl) ?_
  refine sym_seq ?_
  refine St.region h [.inl (.int .i64 (-((m : Nat) : Int))), .inl undef, .inr (0, 0), .inl undef, .inl undef, .inl (.int .i64 (-((m : Nat) : Int))), .inl (.bool true), .inl (.agg (ai 22 (dg 0))), .inl (.int .i64 (-((m : Nat) : Int))), .inl (.int .i64 (-((m : Nat) : Int) + ((1 : Nat) : Int))), .inl (.int .i64 (((m - 1) : Nat) : Int)), .inl (.agg (ai 22 (dg (m - 1)))), .inl (.agg (ai 22 (dg ((0 + (pp - (m - 1))) % pp)))), .inl (.agg (ai 22 (dg 1))), .inl (.agg (ai 22 (dg ((((0 + (pp - (m - 1))) % pp) + (pp - 1)) % pp)))), .inl undef, .inl undef, .inl undef, .inl undef, .inl undef, .inl undef, .inl undef, .inl undef, .inl undef, .inl undef, .inl undef, .inl undef] [.inl (.int .i64 (-((m : Nat) : Int))), .inl undef, .inr (0, 0), .inl undef, .inl undef, .inl (.int .i64 (-((m : Nat) : Int))), .inl (.bool true), .inl undef, .inl undef, .inl undef, .inl undef, .inl undef, .inl undef, .inl undef, .inl undef, .inl undef, .inl undef, .inl undef, .inl undef, .inl undef, .inl undef, .inl undef, .inl undef, .inl undef, .inl undef, .inl undef, .inl undef] [(ai 22 (dg ((((0 + (pp - (m - 1))) % pp) + (pp - 1)) % pp)), 25)] [(ai 22 (fun _ => 0), 25)] [ai 22 (dg ((((0 + (pp - (m - 1))) % pp) + (pp - 1)) % pp))] [⟨none, none, none, false⟩, ⟨none, none, none, false⟩, ⟨none, none, none, false⟩, ⟨none, none, none, false⟩, ⟨none, none, none, false⟩, ⟨none, none, none, false⟩, ⟨none, none, none, false⟩, ⟨none, none, none, false⟩, ⟨none, some 0, none, false⟩] (by kernel_rfl) (by kernel_rfl) (by kernel_rfl) (by kernel_rfl) (by kernel_rfl) (by kernel_rfl) (by kernel_rfl) (by kernel_rfl) (by kernel_rfl) ?_ ?_
  · refine ok_cons (ok_build bd22 rfl (by kernel_rfl) rfl (by kernel_rfl) (by kernel_rfl) (by kernel_rfl)) ?_
    refine ok_cons (ok_mv (Or.inl rfl) (by kernel_rfl) rfl (by kernel_rfl) (by kernel_rfl)) ?_
    refine ok_cons (ok_bin (x1 := .int .i64 (-((m : Nat) : Int))) (u1 := .int .i64 ((1 : Nat) : Int)) (v := .int .i64 (-((m : Nat) : Int) + ((1 : Nat) : Int))) (ad_z (m := -((m : Nat) : Int)) (n := ((1 : Nat) : Int)) (by omega) (by omega)) rfl (by kernel_rfl) rfl (by kernel_rfl) (by kernel_rfl) (by kernel_rfl) (by kernel_rfl) (by kernel_rfl)) ?_
    refine ok_cons (ok_un (x1 := .int .i64 (-((m : Nat) : Int) + ((1 : Nat) : Int))) (v := .int .i64 (((m - 1) : Nat) : Int)) (ng_z (z := -((m : Nat) : Int) + ((1 : Nat) : Int)) (k := m - 1) (by omega) (by omega)) rfl (by kernel_rfl) rfl (by kernel_rfl) (by kernel_rfl) (by kernel_rfl)) ?_
    refine ok_cons (ok_call (vs := #[.int .i64 (((m - 1) : Nat) : Int)]) (R := .agg (ai 22 (dg (m - 1)))) (fun w => int_r (N := (m - 1)) (by omega) w) rfl (by kernel_rfl) rfl (by kernel_rfl) (by kernel_rfl) (by kernel_rfl) (fun w => by kernel_rfl)) ?_
    refine ok_cons (ok_call (vs := #[.agg (ai 22 (dg 0)), .agg (ai 22 (dg (m - 1)))]) (R := .agg (ai 22 (dg ((0 + (pp - (m - 1))) % pp)))) (fun w => minus_r (m := 0) (n := (m - 1)) (lt_big (by first | exact mod_pp _ | exact ofb_lt _ | assumption | exact pp_pos | exact one_lt | exact two_lt)) (Nat.le_of_lt (by first | exact mod_pp _ | exact ofb_lt _ | assumption | exact pp_pos | exact one_lt | exact two_lt)) w) rfl (by kernel_rfl) rfl (by kernel_rfl) (by kernel_rfl) (by kernel_rfl) (fun w => by kernel_rfl)) ?_
    refine ok_cons (ok_call (vs := #[.int .i64 ((1 : Nat) : Int)]) (R := .agg (ai 22 (dg 1))) (fun w => int_r (N := 1) (by omega) w) rfl (by kernel_rfl) rfl (by kernel_rfl) (by kernel_rfl) (by kernel_rfl) (fun w => by kernel_rfl)) ?_
    refine ok_cons (ok_call (vs := #[.agg (ai 22 (dg ((0 + (pp - (m - 1))) % pp))), .agg (ai 22 (dg 1))]) (R := .agg (ai 22 (dg ((((0 + (pp - (m - 1))) % pp) + (pp - 1)) % pp)))) (fun w => minus_r (m := ((0 + (pp - (m - 1))) % pp)) (n := 1) (lt_big (by first | exact mod_pp _ | exact ofb_lt _ | assumption | exact pp_pos | exact one_lt | exact two_lt)) (Nat.le_of_lt (by first | exact mod_pp _ | exact ofb_lt _ | assumption | exact pp_pos | exact one_lt | exact two_lt)) w) rfl (by kernel_rfl) rfl (by kernel_rfl) (by kernel_rfl) (by kernel_rfl) (fun w => by kernel_rfl)) ?_
    refine ok_cons (ok_store (b := 0) (off := 0) (u := .agg (ai 22 (dg ((((0 + (pp - (m - 1))) % pp) + (pp - 1)) % pp)))) (c := ai 22 (fun _ => 0)) (n := ai 22 (dg ((((0 + (pp - (m - 1))) % pp) + (pp - 1)) % pp))) (st22 (F := (dg ((((0 + (pp - (m - 1))) % pp) + (pp - 1)) % pp))) (c := ai 22 (fun _ => 0)) 25 (ai_size _ _)) rfl (by kernel_rfl) rfl (by kernel_rfl) (by kernel_rfl) (by kernel_rfl) (by kernel_rfl) (by kernel_rfl)) ?_
    exact ok_nil
  clear h; intro β a w h
  refine sym_then ?_
  refine wp_ret ?_
  refine then_ret ?_
  exact sym_retc (b := 0) (t0 := 25) (c := ai 22 (dg ((((0 + (pp - (m - 1))) % pp) + (pp - 1)) % pp))) h Try.results14 (by kernel_rfl) (by kernel_rfl) (by kernel_rfl) Try.underlying25 rfl (by rw [ai_size]; kernel_rfl) (fun hb => ⟨rfl, hb⟩)
end Go.Proofs.Ytchbkkjjbdgdoaa

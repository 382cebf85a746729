/- Ref3, M6, Ref4, laid together. -/
import Derived.Test.YtgiemldmphbolaaG2
namespace Go.Proofs.Ytgiemldmphbolaa
open Go.RowKit
theorem below_b {m n : Nat} {b : Bool} (hm : m < 4096 ^ 22) (hn : n < 4096 ^ 22) (h : decide (m < n) = b) (w : World) : Calls Try.prog 83 #[.agg (ai 22 (dg m)), .agg (ai 22 (dg n))] w fun e w' => e = .returned (.bool b) ∧ Below w.heap.size w w' := by
  rw [← h]; exact below_r hm hn w
set_option maxHeartbeats 8000000 in
theorem least_r {F : Nat → Nat} {N : Nat} (hFl : ∀ i, F i < 1099511627776) (hN : pv F 44 = N) (hb : N < 4096 ^ 44) (W0 : World) : Calls Try.prog 67 #[.agg (ai 44 F)] W0 fun e w' => e = .returned (.agg (ai 22 (dg (N % pp)))) ∧ Below W0.heap.size W0 w' := by
  obtain ⟨U, HU⟩ : ∃ U, Hid (U = tV N 3) := ⟨_, hide1 rfl⟩
  have hU : U < 4096 ^ 22 := by rw [HU.out]; exact (tV_three hb).2.2
  obtain ⟨V, HV⟩ : ∃ V, Hid (uV U 2 = V) := ⟨_, hide1 rfl⟩
  have hV : V < 4096 ^ 22 := by rw [← HV.out]; exact uV_lt hU 2
  have hend : N % pp = V - V / pp * pp := by
    rw [q_end, ← HV.out]; show _ = SS (SS U) % pp
    rw [SS_mod, SS_mod, HU.out, tV_mod]
  rw [hend]
  have oF_end' := oF_end F hb
  rw [← HU.out] at oF_end'
  refine sym_enter Try.func67 Try.ntmps67 rfl [.inl (.agg (ai 44 F)), uu, uu, uu, uu, uu, uu, uu, uu, uu, uu, uu, uu, uu, uu, uu, uu, uu, uu, uu, uu, uu, uu, uu, uu, uu, uu, uu, uu, uu, uu, uu, uu, uu, uu, uu, uu, uu, uu, uu, uu, uu, uu, uu, uu, uu, uu, uu, uu, uu, uu, uu, uu, uu, uu, uu, uu, uu, uu, uu, uu, uu, uu, uu, uu, uu, uu, uu, uu, uu, uu, uu, uu, uu, uu, uu, uu, uu, uu, uu, uu, uu, uu, uu, uu, uu, uu, uu, uu, uu, uu, uu, uu, uu, uu, uu, uu, uu, uu, uu, uu, uu, uu, uu, uu, uu] (by kernel_rfl) (by kernel_rfl) ?_
  intro β a h
  refine sym_seq ?_
  refine St.region h [.inl (.agg (ai 44 F)), .inr (0, 0), .inr (1, 0), uu, uu, uu, uu, uu, uu, uu, uu, uu, uu, uu, uu, uu, uu, uu, uu, uu, uu, uu, uu, uu, uu, uu, uu, uu, uu, uu, uu, uu, uu, uu, uu, uu, uu, uu, uu, uu, uu, uu, uu, uu, uu, uu, uu, uu, uu, uu, uu, uu, uu, uu, uu, uu, uu, uu, uu, uu, uu, uu, uu, uu, uu, uu, uu, uu, uu, uu, uu, uu, uu, uu, uu, uu, uu, uu, uu, uu, uu, uu, uu, uu, uu, uu, uu, uu, uu, uu, uu, uu, uu, uu, uu, uu, uu, uu, uu, uu, uu, uu, uu, uu, uu, uu] [(ai 44 F, 95), (ai 22 (fun _ => 0), 35)] [(ai 44 F, 95), (ai 22 (fun _ => 0), 35)] [#[], #[]] [⟨some 0, none, none, false⟩, ⟨some 1, none, none, false⟩] (by kernel_rfl) (by kernel_rfl) (by kernel_rfl) (by kernel_rfl) (by kernel_rfl) (by kernel_rfl) (by kernel_rfl) (by kernel_rfl) ?_ ?_
  · refine ok_cons (ok_box (b := 0) (u := .agg (ai 44 F)) (bx44 (F := F)) rfl (by kernel_rfl) rfl (by kernel_rfl) (by kernel_rfl) (by kernel_rfl) (by kernel_rfl)) ?_
    refine ok_cons (ok_alloc (b := 1) al22 rfl (by kernel_rfl) rfl (by kernel_rfl) (by kernel_rfl)) ?_
    exact ok_nil
  clear h; intro β a w h
  refine sym_then ?_
  refine sym_seq ?_
  refine sym_seq ?_
  refine St.region h [.inl (.agg (ai 44 F)), .inr (0, 0), .inr (1, 0), .inl (.int .i64 ((0 : Nat) : Int)), uu, uu, uu, uu, uu, uu, uu, uu, uu, uu, uu, uu, uu, uu, uu, uu, uu, uu, uu, uu, uu, uu, uu, uu, uu, uu, uu, uu, uu, uu, uu, uu, uu, uu, uu, uu, uu, uu, uu, uu, uu, uu, uu, uu, uu, uu, uu, uu, uu, uu, uu, uu, uu, uu, uu, uu, uu, uu, uu, uu, uu, uu, uu, uu, uu, uu, uu, uu, uu, uu, uu, uu, uu, uu, uu, uu, uu, uu, uu, uu, uu, uu, uu, uu, uu, uu, uu, uu, uu, uu, uu, uu, uu, uu, uu, uu, uu, uu, uu, uu, uu, uu] [(ai 44 F, 95), (ai 22 (fun _ => 0), 35)] [(ai 44 F, 95), (ai 22 (fun _ => 0), 35)] [#[], #[]] [nn] (by kernel_rfl) (by kernel_rfl) (by kernel_rfl) (by kernel_rfl) (by kernel_rfl) (by kernel_rfl) (by kernel_rfl) (by kernel_rfl) ?_ ?_
  · refine ok_cons (ok_mv (Or.inr rfl) (by kernel_rfl) rfl (by kernel_rfl) (by kernel_rfl)) ?_
    exact ok_nil
  clear h; intro β a w h
  refine sym_then ?_
  refine blk_in ?_
  replace h := St.setm h 0 (c := ai 44 F) (c' := ai 44 (oF F N 0)) (t := 95) (m' := [(ai 44 (oF F N 0), 95), (ai 22 (fun _ => 0), 35)]) rfl (by kernel_rfl) (by kernel_rfl)
  refine loop_up 5 (fun r a w => ∃ (x4 x5 x6 x7 x13 x14 x15 x16 x17 x18 x19 x20 x21 x22 x23 x24 x25 x26 x27 x28 x29 x30 x31 x32 x33 x34 x35 x36 x37 x38 x39 x40 x41 x42 x43 x44 x45 x46 x47 x48 x49 : SV) (β : Nat → Nat), St W0 [.inl (.agg (ai 44 F)), .inr (0, 0), .inr (1, 0), .inl (.int .i64 ((r : Nat) : Int)), x4, x5, x6, x7, uu, uu, uu, uu, uu, x13, x14, x15, x16, x17, x18, x19, x20, x21, x22, x23, x24, x25, x26, x27, x28, x29, x30, x31, x32, x33, x34, x35, x36, x37, x38, x39, x40, x41, x42, x43, x44, x45, x46, x47, x48, x49, uu, uu, uu, uu, uu, uu, uu, uu, uu, uu, uu, uu, uu, uu, uu, uu, uu, uu, uu, uu, uu, uu, uu, uu, uu, uu, uu, uu, uu, uu, uu, uu, uu, uu, uu, uu, uu, uu, uu, uu, uu, uu, uu, uu, uu, uu, uu, uu, uu, uu, uu, uu, uu, uu, uu, uu] [(ai 44 (oF F N r), 95), (ai 22 (fun _ => 0), 35)] β a w) ⟨_, _, _, _, _, _, _, _, _, _, _, _, _, _, _, _, _, _, _, _, _, _, _, _, _, _, _, _, _, _, _, _, _, _, _, _, _, _, _, _, _, β, h⟩ ?_
  clear h; rintro r a w hkr ⟨x4, x5, x6, x7, x13, x14, x15, x16, x17, x18, x19, x20, x21, x22, x23, x24, x25, x26, x27, x28, x29, x30, x31, x32, x33, x34, x35, x36, x37, x38, x39, x40, x41, x42, x43, x44, x45, x46, x47, x48, x49, β, h⟩
  rcases Nat.lt_or_ge r 5 with hltr | hger
  · refine sym_seq ?_
    refine sym_seq ?_
    refine St.region h [.inl (.agg (ai 44 F)), .inr (0, 0), .inr (1, 0), .inl (.int .i64 ((r : Nat) : Int)), x4, x5, x6, x7, uu, uu, uu, uu, uu, .inl (.int .i64 ((r : Nat) : Int)), .inl (.bool true), x15, x16, x17, x18, x19, x20, x21, x22, x23, x24, x25, x26, x27, x28, x29, x30, x31, x32, x33, x34, x35, x36, x37, x38, x39, x40, x41, x42, x43, x44, x45, x46, x47, x48, x49, uu, uu, uu, uu, uu, uu, uu, uu, uu, uu, uu, uu, uu, uu, uu, uu, uu, uu, uu, uu, uu, uu, uu, uu, uu, uu, uu, uu, uu, uu, uu, uu, uu, uu, uu, uu, uu, uu, uu, uu, uu, uu, uu, uu, uu, uu, uu, uu, uu, uu, uu, uu, uu, uu, uu, uu] [(ai 44 (oF F N r), 95), (ai 22 (fun _ => 0), 35)] [(ai 44 (oF F N r), 95), (ai 22 (fun _ => 0), 35)] [#[], #[]] [nn, nn] (by kernel_rfl) (by kernel_rfl) (by kernel_rfl) (by kernel_rfl) (by kernel_rfl) (by kernel_rfl) (by kernel_rfl) (by kernel_rfl) ?_ ?_
    · refine ok_cons (ok_mv (Or.inl rfl) (by kernel_rfl) rfl (by kernel_rfl) (by kernel_rfl)) ?_
      refine ok_cons (ok_bin (x1 := .int .i64 ((r : Nat) : Int)) (u1 := .int .i64 ((5 : Nat) : Int)) (v := .bool true) (lt_i (m := ((r : Nat) : Int)) (n := ((5 : Nat) : Int)) (decide_eq_true (by omega))) rfl (by kernel_rfl) rfl (by kernel_rfl) (by kernel_rfl) (by kernel_rfl) (by kernel_rfl) (by kernel_rfl)) ?_
      exact ok_nil
    clear h; intro β a w h
    refine sym_then ?_
    refine sym_cond_t h (by kernel_rfl) (by kernel_rfl) ?_
    refine wp_skip ?_
    refine sym_then ?_
    refine sym_seq ?_
    refine blk_in ?_
    refine sym_seq ?_
    refine St.region h [.inl (.agg (ai 44 F)), .inr (0, 0), .inr (1, 0), .inl (.int .i64 ((r : Nat) : Int)), .inl (.int .i64 ((0 : Nat) : Int)), x5, x6, x7, uu, uu, uu, uu, uu, .inl (.int .i64 ((r : Nat) : Int)), .inl (.bool true), x15, x16, x17, x18, x19, x20, x21, x22, x23, x24, x25, x26, x27, x28, x29, x30, x31, x32, x33, x34, x35, x36, x37, x38, x39, x40, x41, x42, x43, x44, x45, x46, x47, x48, x49, uu, uu, uu, uu, uu, uu, uu, uu, uu, uu, uu, uu, uu, uu, uu, uu, uu, uu, uu, uu, uu, uu, uu, uu, uu, uu, uu, uu, uu, uu, uu, uu, uu, uu, uu, uu, uu, uu, uu, uu, uu, uu, uu, uu, uu, uu, uu, uu, uu, uu, uu, uu, uu, uu, uu, uu] [(ai 44 (oF F N r), 95), (ai 22 (fun _ => 0), 35)] [(ai 44 (oF F N r), 95), (ai 22 (fun _ => 0), 35)] [#[], #[]] [nn] (by kernel_rfl) (by kernel_rfl) (by kernel_rfl) (by kernel_rfl) (by kernel_rfl) (by kernel_rfl) (by kernel_rfl) (by kernel_rfl) ?_ ?_
    · refine ok_cons (ok_mv (Or.inr rfl) (by kernel_rfl) rfl (by kernel_rfl) (by kernel_rfl)) ?_
      exact ok_nil
    clear h; intro β a w h
    refine sym_then ?_
    refine sym_seq ?_
    refine sym_seq ?_
    refine St.region h [.inl (.agg (ai 44 F)), .inr (0, 0), .inr (1, 0), .inl (.int .i64 ((r : Nat) : Int)), .inl (.int .i64 ((0 : Nat) : Int)), .inl (.int .i64 ((0 : Nat) : Int)), x6, x7, uu, uu, uu, uu, uu, .inl (.int .i64 ((r : Nat) : Int)), .inl (.bool true), x15, x16, x17, x18, x19, x20, x21, x22, x23, x24, x25, x26, x27, x28, x29, x30, x31, x32, x33, x34, x35, x36, x37, x38, x39, x40, x41, x42, x43, x44, x45, x46, x47, x48, x49, uu, uu, uu, uu, uu, uu, uu, uu, uu, uu, uu, uu, uu, uu, uu, uu, uu, uu, uu, uu, uu, uu, uu, uu, uu, uu, uu, uu, uu, uu, uu, uu, uu, uu, uu, uu, uu, uu, uu, uu, uu, uu, uu, uu, uu, uu, uu, uu, uu, uu, uu, uu, uu, uu, uu, uu] [(ai 44 (oF F N r), 95), (ai 22 (fun _ => 0), 35)] [(ai 44 (oF F N r), 95), (ai 22 (fun _ => 0), 35)] [#[], #[]] [nn] (by kernel_rfl) (by kernel_rfl) (by kernel_rfl) (by kernel_rfl) (by kernel_rfl) (by kernel_rfl) (by kernel_rfl) (by kernel_rfl) ?_ ?_
    · refine ok_cons (ok_mv (Or.inr rfl) (by kernel_rfl) rfl (by kernel_rfl) (by kernel_rfl)) ?_
      exact ok_nil
    clear h; intro β a w h
    refine sym_then ?_
    refine blk_in ?_
    replace h := St.setm h 0 (c := ai 44 (oF F N r)) (c' := ai 44 (cyF (oF F N r) 0)) (t := 95) (m' := [(ai 44 (cyF (oF F N r) 0), 95), (ai 22 (fun _ => 0), 35)]) (cyF_zero _) (by kernel_rfl) (by kernel_rfl)
    replace h := St.sets h 4 (v := .int .i64 ((0 : Nat) : Int)) (v' := .int .i64 (((cr (oF F N r) 0) : Nat) : Int)) (s' := [.inl (.agg (ai 44 F)), .inr (0, 0), .inr (1, 0), .inl (.int .i64 ((r : Nat) : Int)), .inl (.int .i64 (((cr (oF F N r) 0) : Nat) : Int)), .inl (.int .i64 ((0 : Nat) : Int)), x6, x7, uu, uu, uu, uu, uu, .inl (.int .i64 ((r : Nat) : Int)), .inl (.bool true), x15, x16, x17, x18, x19, x20, x21, x22, x23, x24, x25, x26, x27, x28, x29, x30, x31, x32, x33, x34, x35, x36, x37, x38, x39, x40, x41, x42, x43, x44, x45, x46, x47, x48, x49, uu, uu, uu, uu, uu, uu, uu, uu, uu, uu, uu, uu, uu, uu, uu, uu, uu, uu, uu, uu, uu, uu, uu, uu, uu, uu, uu, uu, uu, uu, uu, uu, uu, uu, uu, uu, uu, uu, uu, uu, uu, uu, uu, uu, uu, uu, uu, uu, uu, uu, uu, uu, uu, uu, uu, uu]) (ic (cr_zero _).symm) (by kernel_rfl) (by kernel_rfl)
    refine loop_up 44 (fun c a w => ∃ (x6 x17 x18 x19 x20 x21 x22 x23 x24 x25 x26 x27 x28 x29 x30 x31 : SV) (β : Nat → Nat), St W0 [.inl (.agg (ai 44 F)), .inr (0, 0), .inr (1, 0), .inl (.int .i64 ((r : Nat) : Int)), .inl (.int .i64 (((cr (oF F N r) c) : Nat) : Int)), .inl (.int .i64 ((c : Nat) : Int)), x6, x7, uu, uu, uu, uu, uu, .inl (.int .i64 ((r : Nat) : Int)), .inl (.bool true), x15, x16, x17, x18, x19, x20, x21, x22, x23, x24, x25, x26, x27, x28, x29, x30, x31, x32, x33, x34, x35, x36, x37, x38, x39, x40, x41, x42, x43, x44, x45, x46, x47, x48, x49, uu, uu, uu, uu, uu, uu, uu, uu, uu, uu, uu, uu, uu, uu, uu, uu, uu, uu, uu, uu, uu, uu, uu, uu, uu, uu, uu, uu, uu, uu, uu, uu, uu, uu, uu, uu, uu, uu, uu, uu, uu, uu, uu, uu, uu, uu, uu, uu, uu, uu, uu, uu, uu, uu, uu, uu] [(ai 44 (cyF (oF F N r) c), 95), (ai 22 (fun _ => 0), 35)] β a w) ⟨_, _, _, _, _, _, _, _, _, _, _, _, _, _, _, _, β, h⟩ ?_
    clear h; rintro c a w hkc ⟨x6, x17, x18, x19, x20, x21, x22, x23, x24, x25, x26, x27, x28, x29, x30, x31, β, h⟩
    have g1 := oF_lt hFl N r c
    have g2 := cr_lt (oF_lt hFl N r) c
    have g3 := cyF_at (oF F N r) c
    rcases Nat.lt_or_ge c 44 with hltc | hgec
    · refine sym_seq ?_
      refine sym_seq ?_
      refine St.region h [.inl (.agg (ai 44 F)), .inr (0, 0), .inr (1, 0), .inl (.int .i64 ((r : Nat) : Int)), .inl (.int .i64 (((cr (oF F N r) c) : Nat) : Int)), .inl (.int .i64 ((c : Nat) : Int)), x6, x7, uu, uu, uu, uu, uu, .inl (.int .i64 ((r : Nat) : Int)), .inl (.bool true), x15, x16, .inl (.int .i64 ((c : Nat) : Int)), .inl (.bool true), x19, x20, x21, x22, x23, x24, x25, x26, x27, x28, x29, x30, x31, x32, x33, x34, x35, x36, x37, x38, x39, x40, x41, x42, x43, x44, x45, x46, x47, x48, x49, uu, uu, uu, uu, uu, uu, uu, uu, uu, uu, uu, uu, uu, uu, uu, uu, uu, uu, uu, uu, uu, uu, uu, uu, uu, uu, uu, uu, uu, uu, uu, uu, uu, uu, uu, uu, uu, uu, uu, uu, uu, uu, uu, uu, uu, uu, uu, uu, uu, uu, uu, uu, uu, uu, uu, uu] [(ai 44 (cyF (oF F N r) c), 95), (ai 22 (fun _ => 0), 35)] [(ai 44 (cyF (oF F N r) c), 95), (ai 22 (fun _ => 0), 35)] [#[], #[]] [nn, nn] (by kernel_rfl) (by kernel_rfl) (by kernel_rfl) (by kernel_rfl) (by kernel_rfl) (by kernel_rfl) (by kernel_rfl) (by kernel_rfl) ?_ ?_
      · refine ok_cons (ok_mv (Or.inl rfl) (by kernel_rfl) rfl (by kernel_rfl) (by kernel_rfl)) ?_
        refine ok_cons (ok_bin (x1 := .int .i64 ((c : Nat) : Int)) (u1 := .int .i64 ((44 : Nat) : Int)) (v := .bool true) (lt_i (m := ((c : Nat) : Int)) (n := ((44 : Nat) : Int)) (decide_eq_true (by omega))) rfl (by kernel_rfl) rfl (by kernel_rfl) (by kernel_rfl) (by kernel_rfl) (by kernel_rfl) (by kernel_rfl)) ?_
        exact ok_nil
      clear h; intro β a w h
      refine sym_then ?_
      refine sym_cond_t h (by kernel_rfl) (by kernel_rfl) ?_
      refine wp_skip ?_
      refine sym_then ?_
      refine sym_seq ?_
      refine blk_in ?_
      refine sym_seq ?_
      refine St.region h [.inl (.agg (ai 44 F)), .inr (0, 0), .inr (1, 0), .inl (.int .i64 ((r : Nat) : Int)), .inl (.int .i64 (((cr (oF F N r) c) : Nat) : Int)), .inl (.int .i64 ((c : Nat) : Int)), .inl (.int .i64 (((((cyF (oF F N r) c) c) + (cr (oF F N r) c)) : Nat) : Int)), x7, uu, uu, uu, uu, uu, .inl (.int .i64 ((r : Nat) : Int)), .inl (.bool true), x15, x16, .inl (.int .i64 ((c : Nat) : Int)), .inl (.bool true), x19, x20, .inl (.int .i64 ((c : Nat) : Int)), .inr (0, c), .inl (.int .i64 ((((cyF (oF F N r) c) c) : Nat) : Int)), .inl (.int .i64 (((cr (oF F N r) c) : Nat) : Int)), .inl (.int .i64 (((((cyF (oF F N r) c) c) + (cr (oF F N r) c)) : Nat) : Int)), x26, x27, x28, x29, x30, x31, x32, x33, x34, x35, x36, x37, x38, x39, x40, x41, x42, x43, x44, x45, x46, x47, x48, x49, uu, uu, uu, uu, uu, uu, uu, uu, uu, uu, uu, uu, uu, uu, uu, uu, uu, uu, uu, uu, uu, uu, uu, uu, uu, uu, uu, uu, uu, uu, uu, uu, uu, uu, uu, uu, uu, uu, uu, uu, uu, uu, uu, uu, uu, uu, uu, uu, uu, uu, uu, uu, uu, uu, uu, uu] [(ai 44 (cyF (oF F N r) c), 95), (ai 22 (fun _ => 0), 35)] [(ai 44 (cyF (oF F N r) c), 95), (ai 22 (fun _ => 0), 35)] [#[], #[]] [nn, nn, ⟨none, none, some 0, false⟩, nn, nn, nn] (by kernel_rfl) (by kernel_rfl) (by kernel_rfl) (by kernel_rfl) (by kernel_rfl) (by kernel_rfl) (by kernel_rfl) (by kernel_rfl) ?_ ?_
      · refine ok_cons (ok_mv (Or.inl rfl) (by kernel_rfl) rfl (by kernel_rfl) (by kernel_rfl)) ?_
        refine ok_cons (ok_iaddr (b := 0) (off := 0) (off' := c) (u := .int .i64 ((c : Nat) : Int)) (ix44 (i := c) (by omega)) rfl (by kernel_rfl) rfl (by kernel_rfl) (by kernel_rfl) (by kernel_rfl) (by kernel_rfl)) ?_
        refine ok_cons (ok_load (b := 0) (off := c) (c := ai 44 (cyF (oF F N r) c)) (v := .int .i64 ((((cyF (oF F N r) c) c) : Nat) : Int)) (ld_at (n := 44) (F := (cyF (oF F N r) c)) (i := c) (t0 := 95) (by omega)) rfl (by kernel_rfl) rfl (by kernel_rfl) (by kernel_rfl) (by kernel_rfl)) ?_
        refine ok_cons (ok_mv (Or.inl rfl) (by kernel_rfl) rfl (by kernel_rfl) (by kernel_rfl)) ?_
        refine ok_cons (ok_bin (x1 := .int .i64 ((((cyF (oF F N r) c) c) : Nat) : Int)) (u1 := .int .i64 (((cr (oF F N r) c) : Nat) : Int)) (v := .int .i64 (((((cyF (oF F N r) c) c) + (cr (oF F N r) c)) : Nat) : Int)) (ad_i (m := ((cyF (oF F N r) c) c)) (n := (cr (oF F N r) c)) (by omega)) rfl (by kernel_rfl) rfl (by kernel_rfl) (by kernel_rfl) (by kernel_rfl) (by kernel_rfl) (by kernel_rfl)) ?_
        refine ok_cons (ok_mv (Or.inr rfl) (by kernel_rfl) rfl (by kernel_rfl) (by kernel_rfl)) ?_
        exact ok_nil
      clear h; intro β a w h
      refine sym_then ?_
      refine sym_seq ?_
      refine St.region h [.inl (.agg (ai 44 F)), .inr (0, 0), .inr (1, 0), .inl (.int .i64 ((r : Nat) : Int)), .inl (.int .i64 (((cr (oF F N r) c) : Nat) : Int)), .inl (.int .i64 ((c : Nat) : Int)), .inl (.int .i64 (((((cyF (oF F N r) c) c) + (cr (oF F N r) c)) : Nat) : Int)), x7, uu, uu, uu, uu, uu, .inl (.int .i64 ((r : Nat) : Int)), .inl (.bool true), x15, x16, .inl (.int .i64 ((c : Nat) : Int)), .inl (.bool true), x19, x20, .inl (.int .i64 ((c : Nat) : Int)), .inr (0, c), .inl (.int .i64 ((((cyF (oF F N r) c) c) : Nat) : Int)), .inl (.int .i64 (((cr (oF F N r) c) : Nat) : Int)), .inl (.int .i64 (((((cyF (oF F N r) c) c) + (cr (oF F N r) c)) : Nat) : Int)), .inl (.int .i64 ((c : Nat) : Int)), .inl (.int .i64 (((((cyF (oF F N r) c) c) + (cr (oF F N r) c)) : Nat) : Int)), .inl (.int .i64 ((((((cyF (oF F N r) c) c) + (cr (oF F N r) c)) % 4096) : Nat) : Int)), .inr (0, c), x30, x31, x32, x33, x34, x35, x36, x37, x38, x39, x40, x41, x42, x43, x44, x45, x46, x47, x48, x49, uu, uu, uu, uu, uu, uu, uu, uu, uu, uu, uu, uu, uu, uu, uu, uu, uu, uu, uu, uu, uu, uu, uu, uu, uu, uu, uu, uu, uu, uu, uu, uu, uu, uu, uu, uu, uu, uu, uu, uu, uu, uu, uu, uu, uu, uu, uu, uu, uu, uu, uu, uu, uu, uu, uu, uu] [(ai 44 (updN (cyF (oF F N r) c) c ((((cyF (oF F N r) c) c) + (cr (oF F N r) c)) % 4096)), 95), (ai 22 (fun _ => 0), 35)] [(ai 44 (cyF (oF F N r) c), 95), (ai 22 (fun _ => 0), 35)] [ai 44 (updN (cyF (oF F N r) c) c ((((cyF (oF F N r) c) c) + (cr (oF F N r) c)) % 4096)), #[]] [nn, nn, nn, nn, ⟨none, some 0, none, false⟩] (by kernel_rfl) (by kernel_rfl) (by kernel_rfl) (by kernel_rfl) (by kernel_rfl) (by kernel_rfl) (by kernel_rfl) (by kernel_rfl) ?_ ?_
      · refine ok_cons (ok_mv (Or.inl rfl) (by kernel_rfl) rfl (by kernel_rfl) (by kernel_rfl)) ?_
        refine ok_cons (ok_mv (Or.inl rfl) (by kernel_rfl) rfl (by kernel_rfl) (by kernel_rfl)) ?_
        refine ok_cons (ok_bin (x1 := .int .i64 (((((cyF (oF F N r) c) c) + (cr (oF F N r) c)) : Nat) : Int)) (u1 := .int .i64 ((4096 : Nat) : Int)) (v := .int .i64 ((((((cyF (oF F N r) c) c) + (cr (oF F N r) c)) % 4096) : Nat) : Int)) (re_i (m := (((cyF (oF F N r) c) c) + (cr (oF F N r) c))) (n := 4096) (by decide)) rfl (by kernel_rfl) rfl (by kernel_rfl) (by kernel_rfl) (by kernel_rfl) (by kernel_rfl) (by kernel_rfl)) ?_
        refine ok_cons (ok_iaddr (b := 0) (off := 0) (off' := c) (u := .int .i64 ((c : Nat) : Int)) (ix44 (i := c) (by omega)) rfl (by kernel_rfl) rfl (by kernel_rfl) (by kernel_rfl) (by kernel_rfl) (by kernel_rfl)) ?_
        refine ok_cons (ok_store (b := 0) (off := c) (u := .int .i64 ((((((cyF (oF F N r) c) c) + (cr (oF F N r) c)) % 4096) : Nat) : Int)) (c := ai 44 (cyF (oF F N r) c)) (n := ai 44 (updN (cyF (oF F N r) c) c ((((cyF (oF F N r) c) c) + (cr (oF F N r) c)) % 4096))) (st_at (n := 44) (F := (cyF (oF F N r) c)) (i := c) (v := ((((cyF (oF F N r) c) c) + (cr (oF F N r) c)) % 4096)) (t0 := 95) (by omega)) rfl (by kernel_rfl) rfl (by kernel_rfl) (by kernel_rfl) (by kernel_rfl) (by kernel_rfl) (by kernel_rfl)) ?_
        exact ok_nil
      clear h; intro β a w h
      refine sym_then ?_
      refine St.region h [.inl (.agg (ai 44 F)), .inr (0, 0), .inr (1, 0), .inl (.int .i64 ((r : Nat) : Int)), .inl (.int .i64 ((((((cyF (oF F N r) c) c) + (cr (oF F N r) c)) / 4096) : Nat) : Int)), .inl (.int .i64 ((c : Nat) : Int)), .inl (.int .i64 (((((cyF (oF F N r) c) c) + (cr (oF F N r) c)) : Nat) : Int)), x7, uu, uu, uu, uu, uu, .inl (.int .i64 ((r : Nat) : Int)), .inl (.bool true), x15, x16, .inl (.int .i64 ((c : Nat) : Int)), .inl (.bool true), x19, x20, .inl (.int .i64 ((c : Nat) : Int)), .inr (0, c), .inl (.int .i64 ((((cyF (oF F N r) c) c) : Nat) : Int)), .inl (.int .i64 (((cr (oF F N r) c) : Nat) : Int)), .inl (.int .i64 (((((cyF (oF F N r) c) c) + (cr (oF F N r) c)) : Nat) : Int)), .inl (.int .i64 ((c : Nat) : Int)), .inl (.int .i64 (((((cyF (oF F N r) c) c) + (cr (oF F N r) c)) : Nat) : Int)), .inl (.int .i64 ((((((cyF (oF F N r) c) c) + (cr (oF F N r) c)) % 4096) : Nat) : Int)), .inr (0, c), .inl (.int .i64 (((((cyF (oF F N r) c) c) + (cr (oF F N r) c)) : Nat) : Int)), .inl (.int .i64 ((((((cyF (oF F N r) c) c) + (cr (oF F N r) c)) / 4096) : Nat) : Int)), x32, x33, x34, x35, x36, x37, x38, x39, x40, x41, x42, x43, x44, x45, x46, x47, x48, x49, uu, uu, uu, uu, uu, uu, uu, uu, uu, uu, uu, uu, uu, uu, uu, uu, uu, uu, uu, uu, uu, uu, uu, uu, uu, uu, uu, uu, uu, uu, uu, uu, uu, uu, uu, uu, uu, uu, uu, uu, uu, uu, uu, uu, uu, uu, uu, uu, uu, uu, uu, uu, uu, uu, uu, uu] [(ai 44 (updN (cyF (oF F N r) c) c ((((cyF (oF F N r) c) c) + (cr (oF F N r) c)) % 4096)), 95), (ai 22 (fun _ => 0), 35)] [(ai 44 (updN (cyF (oF F N r) c) c ((((cyF (oF F N r) c) c) + (cr (oF F N r) c)) % 4096)), 95), (ai 22 (fun _ => 0), 35)] [#[], #[]] [nn, nn, nn] (by kernel_rfl) (by kernel_rfl) (by kernel_rfl) (by kernel_rfl) (by kernel_rfl) (by kernel_rfl) (by kernel_rfl) (by kernel_rfl) ?_ ?_
      · refine ok_cons (ok_mv (Or.inl rfl) (by kernel_rfl) rfl (by kernel_rfl) (by kernel_rfl)) ?_
        refine ok_cons (ok_bin (x1 := .int .i64 (((((cyF (oF F N r) c) c) + (cr (oF F N r) c)) : Nat) : Int)) (u1 := .int .i64 ((4096 : Nat) : Int)) (v := .int .i64 ((((((cyF (oF F N r) c) c) + (cr (oF F N r) c)) / 4096) : Nat) : Int)) (qu_i (m := (((cyF (oF F N r) c) c) + (cr (oF F N r) c))) (n := 4096) (by decide) (by omega)) rfl (by kernel_rfl) rfl (by kernel_rfl) (by kernel_rfl) (by kernel_rfl) (by kernel_rfl) (by kernel_rfl)) ?_
        refine ok_cons (ok_mv (Or.inr rfl) (by kernel_rfl) rfl (by kernel_rfl) (by kernel_rfl)) ?_
        exact ok_nil
      clear h; intro β a w h
      refine blk_norm ?_
      refine sym_then ?_
      refine St.region h [.inl (.agg (ai 44 F)), .inr (0, 0), .inr (1, 0), .inl (.int .i64 ((r : Nat) : Int)), .inl (.int .i64 ((((((cyF (oF F N r) c) c) + (cr (oF F N r) c)) / 4096) : Nat) : Int)), .inl (.int .i64 (((c + 1) : Nat) : Int)), .inl (.int .i64 (((((cyF (oF F N r) c) c) + (cr (oF F N r) c)) : Nat) : Int)), x7, uu, uu, uu, uu, uu, .inl (.int .i64 ((r : Nat) : Int)), .inl (.bool true), x15, x16, .inl (.int .i64 ((c : Nat) : Int)), .inl (.bool true), .inl (.int .i64 ((c : Nat) : Int)), .inl (.int .i64 (((c + 1) : Nat) : Int)), .inl (.int .i64 ((c : Nat) : Int)), .inr (0, c), .inl (.int .i64 ((((cyF (oF F N r) c) c) : Nat) : Int)), .inl (.int .i64 (((cr (oF F N r) c) : Nat) : Int)), .inl (.int .i64 (((((cyF (oF F N r) c) c) + (cr (oF F N r) c)) : Nat) : Int)), .inl (.int .i64 ((c : Nat) : Int)), .inl (.int .i64 (((((cyF (oF F N r) c) c) + (cr (oF F N r) c)) : Nat) : Int)), .inl (.int .i64 ((((((cyF (oF F N r) c) c) + (cr (oF F N r) c)) % 4096) : Nat) : Int)), .inr (0, c), .inl (.int .i64 (((((cyF (oF F N r) c) c) + (cr (oF F N r) c)) : Nat) : Int)), .inl (.int .i64 ((((((cyF (oF F N r) c) c) + (cr (oF F N r) c)) / 4096) : Nat) : Int)), x32, x33, x34, x35, x36, x37, x38, x39, x40, x41, x42, x43, x44, x45, x46, x47, x48, x49, uu, uu, uu, uu, uu, uu, uu, uu, uu, uu, uu, uu, uu, uu, uu, uu, uu, uu, uu, uu, uu, uu, uu, uu, uu, uu, uu, uu, uu, uu, uu, uu, uu, uu, uu, uu, uu, uu, uu, uu, uu, uu, uu, uu, uu, uu, uu, uu, uu, uu, uu, uu, uu, uu, uu, uu] [(ai 44 (updN (cyF (oF F N r) c) c ((((cyF (oF F N r) c) c) + (cr (oF F N r) c)) % 4096)), 95), (ai 22 (fun _ => 0), 35)] [(ai 44 (updN (cyF (oF F N r) c) c ((((cyF (oF F N r) c) c) + (cr (oF F N r) c)) % 4096)), 95), (ai 22 (fun _ => 0), 35)] [#[], #[]] [⟨none, none, none, true⟩, nn, nn] (by kernel_rfl) (by kernel_rfl) (by kernel_rfl) (by kernel_rfl) (by kernel_rfl) (by kernel_rfl) (by kernel_rfl) (by kernel_rfl) ?_ ?_
      · refine ok_cons (ok_mv0 rfl (by kernel_rfl) rfl (by kernel_rfl) (by kernel_rfl)) ?_
        refine ok_cons (ok_bin (x1 := .int .i64 ((c : Nat) : Int)) (u1 := .int .i64 ((1 : Nat) : Int)) (v := .int .i64 (((c + 1) : Nat) : Int)) (ad_i (m := c) (n := 1) (by omega)) rfl (by kernel_rfl) rfl (by kernel_rfl) (by kernel_rfl) (by kernel_rfl) (by kernel_rfl) (by kernel_rfl)) ?_
        refine ok_cons (ok_mv (Or.inr rfl) (by kernel_rfl) rfl (by kernel_rfl) (by kernel_rfl)) ?_
        exact ok_nil
      clear h; intro β a w h
      replace h := St.setm h 0 (c := ai 44 (updN (cyF (oF F N r) c) c ((((cyF (oF F N r) c) c) + (cr (oF F N r) c)) % 4096))) (c' := ai 44 (cyF (oF F N r) (c + 1))) (t := 95) (m' := [(ai 44 (cyF (oF F N r) (c + 1)), 95), (ai 22 (fun _ => 0), 35)]) (cyF_next _ _) (by kernel_rfl) (by kernel_rfl)
      replace h := St.sets h 4 (v := .int .i64 ((((((cyF (oF F N r) c) c) + (cr (oF F N r) c)) / 4096) : Nat) : Int)) (v' := .int .i64 (((cr (oF F N r) (c + 1)) : Nat) : Int)) (s' := [.inl (.agg (ai 44 F)), .inr (0, 0), .inr (1, 0), .inl (.int .i64 ((r : Nat) : Int)), .inl (.int .i64 (((cr (oF F N r) (c + 1)) : Nat) : Int)), .inl (.int .i64 (((c + 1) : Nat) : Int)), .inl (.int .i64 (((((cyF (oF F N r) c) c) + (cr (oF F N r) c)) : Nat) : Int)), x7, uu, uu, uu, uu, uu, .inl (.int .i64 ((r : Nat) : Int)), .inl (.bool true), x15, x16, .inl (.int .i64 ((c : Nat) : Int)), .inl (.bool true), .inl (.int .i64 ((c : Nat) : Int)), .inl (.int .i64 (((c + 1) : Nat) : Int)), .inl (.int .i64 ((c : Nat) : Int)), .inr (0, c), .inl (.int .i64 ((((cyF (oF F N r) c) c) : Nat) : Int)), .inl (.int .i64 (((cr (oF F N r) c) : Nat) : Int)), .inl (.int .i64 (((((cyF (oF F N r) c) c) + (cr (oF F N r) c)) : Nat) : Int)), .inl (.int .i64 ((c : Nat) : Int)), .inl (.int .i64 (((((cyF (oF F N r) c) c) + (cr (oF F N r) c)) : Nat) : Int)), .inl (.int .i64 ((((((cyF (oF F N r) c) c) + (cr (oF F N r) c)) % 4096) : Nat) : Int)), .inr (0, c), .inl (.int .i64 (((((cyF (oF F N r) c) c) + (cr (oF F N r) c)) : Nat) : Int)), .inl (.int .i64 ((((((cyF (oF F N r) c) c) + (cr (oF F N r) c)) / 4096) : Nat) : Int)), x32, x33, x34, x35, x36, x37, x38, x39, x40, x41, x42, x43, x44, x45, x46, x47, x48, x49, uu, uu, uu, uu, uu, uu, uu, uu, uu, uu, uu, uu, uu, uu, uu, uu, uu, uu, uu, uu, uu, uu, uu, uu, uu, uu, uu, uu, uu, uu, uu, uu, uu, uu, uu, uu, uu, uu, uu, uu, uu, uu, uu, uu, uu, uu, uu, uu, uu, uu, uu, uu, uu, uu, uu, uu]) (ic (by rw [cyF_at]; exact cr_next _ _)) (by kernel_rfl) (by kernel_rfl)
      exact ⟨hltc, _, _, _, _, _, _, _, _, _, _, _, _, _, _, _, _, _, h⟩
    · obtain rfl : c = 44 := by omega
      refine sym_seq ?_
      refine sym_seq ?_
      refine St.region h [.inl (.agg (ai 44 F)), .inr (0, 0), .inr (1, 0), .inl (.int .i64 ((r : Nat) : Int)), .inl (.int .i64 (((cr (oF F N r) 44) : Nat) : Int)), .inl (.int .i64 ((44 : Nat) : Int)), x6, x7, uu, uu, uu, uu, uu, .inl (.int .i64 ((r : Nat) : Int)), .inl (.bool true), x15, x16, .inl (.int .i64 ((44 : Nat) : Int)), .inl (.bool false), x19, x20, x21, x22, x23, x24, x25, x26, x27, x28, x29, x30, x31, x32, x33, x34, x35, x36, x37, x38, x39, x40, x41, x42, x43, x44, x45, x46, x47, x48, x49, uu, uu, uu, uu, uu, uu, uu, uu, uu, uu, uu, uu, uu, uu, uu, uu, uu, uu, uu, uu, uu, uu, uu, uu, uu, uu, uu, uu, uu, uu, uu, uu, uu, uu, uu, uu, uu, uu, uu, uu, uu, uu, uu, uu, uu, uu, uu, uu, uu, uu, uu, uu, uu, uu, uu, uu] [(ai 44 (cyF (oF F N r) 44), 95), (ai 22 (fun _ => 0), 35)] [(ai 44 (cyF (oF F N r) 44), 95), (ai 22 (fun _ => 0), 35)] [#[], #[]] [nn, nn] (by kernel_rfl) (by kernel_rfl) (by kernel_rfl) (by kernel_rfl) (by kernel_rfl) (by kernel_rfl) (by kernel_rfl) (by kernel_rfl) ?_ ?_
      · refine ok_cons (ok_mv (Or.inl rfl) (by kernel_rfl) rfl (by kernel_rfl) (by kernel_rfl)) ?_
        refine ok_cons (ok_bin (x1 := .int .i64 ((44 : Nat) : Int)) (u1 := .int .i64 ((44 : Nat) : Int)) (v := .bool false) (lt_i (m := ((44 : Nat) : Int)) (n := ((44 : Nat) : Int)) (decide_eq_false (by omega))) rfl (by kernel_rfl) rfl (by kernel_rfl) (by kernel_rfl) (by kernel_rfl) (by kernel_rfl) (by kernel_rfl)) ?_
        exact ok_nil
      clear h; intro β a w h
      refine sym_then ?_
      refine sym_cond_f h (by kernel_rfl) (by kernel_rfl) ?_
      refine wp_exit ?_
      refine then_exit ?_
      refine then_exit ?_
      refine blk_exit ?_
      refine sym_then ?_
      refine sym_seq ?_
      refine St.region h [.inl (.agg (ai 44 F)), .inr (0, 0), .inr (1, 0), .inl (.int .i64 ((r : Nat) : Int)), .inl (.int .i64 (((cr (oF F N r) 44) : Nat) : Int)), .inl (.int .i64 ((44 : Nat) : Int)), x6, .inl (.int .i64 ((0 : Nat) : Int)), uu, uu, uu, uu, uu, .inl (.int .i64 ((r : Nat) : Int)), .inl (.bool true), x15, x16, .inl (.int .i64 ((44 : Nat) : Int)), .inl (.bool false), x19, x20, x21, x22, x23, x24, x25, x26, x27, x28, x29, x30, x31, x32, x33, x34, x35, x36, x37, x38, x39, x40, x41, x42, x43, x44, x45, x46, x47, x48, x49, uu, uu, uu, uu, uu, uu, uu, uu, uu, uu, uu, uu, uu, uu, uu, uu, uu, uu, uu, uu, uu, uu, uu, uu, uu, uu, uu, uu, uu, uu, uu, uu, uu, uu, uu, uu, uu, uu, uu, uu, uu, uu, uu, uu, uu, uu, uu, uu, uu, uu, uu, uu, uu, uu, uu, uu] [(ai 44 (cyF (oF F N r) 44), 95), (ai 22 (fun _ => 0), 35)] [(ai 44 (cyF (oF F N r) 44), 95), (ai 22 (fun _ => 0), 35)] [#[], #[]] [nn] (by kernel_rfl) (by kernel_rfl) (by kernel_rfl) (by kernel_rfl) (by kernel_rfl) (by kernel_rfl) (by kernel_rfl) (by kernel_rfl) ?_ ?_
      · refine ok_cons (ok_mv (Or.inr rfl) (by kernel_rfl) rfl (by kernel_rfl) (by kernel_rfl)) ?_
        exact ok_nil
      clear h; intro β a w h
      refine sym_then ?_
      refine blk_in ?_
      replace h := St.setm h 0 (c := ai 44 (cyF (oF F N r) 44)) (c' := ai 44 (foF (tV N r) 0)) (t := 95) (m' := [(ai 44 (foF (tV N r) 0), 95), (ai 22 (fun _ => 0), 35)]) ((cyF_end (oF_pv hN hb r)).trans (foF_zero _)) (by kernel_rfl) (by kernel_rfl)
      refine loop_up 22 (fun f a w => ∃ (x32 x33 x34 x35 x36 x37 x38 x39 x40 x41 x42 x43 x44 x45 x46 x47 x48 x49 : SV) (β : Nat → Nat), St W0 [.inl (.agg (ai 44 F)), .inr (0, 0), .inr (1, 0), .inl (.int .i64 ((r : Nat) : Int)), .inl (.int .i64 (((cr (oF F N r) 44) : Nat) : Int)), .inl (.int .i64 ((44 : Nat) : Int)), x6, .inl (.int .i64 ((f : Nat) : Int)), uu, uu, uu, uu, uu, .inl (.int .i64 ((r : Nat) : Int)), .inl (.bool true), x15, x16, .inl (.int .i64 ((44 : Nat) : Int)), .inl (.bool false), x19, x20, x21, x22, x23, x24, x25, x26, x27, x28, x29, x30, x31, x32, x33, x34, x35, x36, x37, x38, x39, x40, x41, x42, x43, x44, x45, x46, x47, x48, x49, uu, uu, uu, uu, uu, uu, uu, uu, uu, uu, uu, uu, uu, uu, uu, uu, uu, uu, uu, uu, uu, uu, uu, uu, uu, uu, uu, uu, uu, uu, uu, uu, uu, uu, uu, uu, uu, uu, uu, uu, uu, uu, uu, uu, uu, uu, uu, uu, uu, uu, uu, uu, uu, uu, uu, uu] [(ai 44 (foF (tV N r) f), 95), (ai 22 (fun _ => 0), 35)] β a w) ⟨_, _, _, _, _, _, _, _, _, _, _, _, _, _, _, _, _, _, β, h⟩ ?_
      clear h; rintro f a w hkf ⟨x32, x33, x34, x35, x36, x37, x38, x39, x40, x41, x42, x43, x44, x45, x46, x47, x48, x49, β, h⟩
      have g1 := dg_lt (tV N r) f
      have g2 := dg_lt (tV N r) (f + 22)
      have g3 := fun h : f < 22 => foF_a (V := tV N r) h
      have g4 := foF_b (tV N r) f
      rcases Nat.lt_or_ge f 22 with hltf | hgef
      · refine sym_seq ?_
        refine sym_seq ?_
        refine St.region h [.inl (.agg (ai 44 F)), .inr (0, 0), .inr (1, 0), .inl (.int .i64 ((r : Nat) : Int)), .inl (.int .i64 (((cr (oF F N r) 44) : Nat) : Int)), .inl (.int .i64 ((44 : Nat) : Int)), x6, .inl (.int .i64 ((f : Nat) : Int)), uu, uu, uu, uu, uu, .inl (.int .i64 ((r : Nat) : Int)), .inl (.bool true), x15, x16, .inl (.int .i64 ((44 : Nat) : Int)), .inl (.bool false), x19, x20, x21, x22, x23, x24, x25, x26, x27, x28, x29, x30, x31, .inl (.int .i64 ((f : Nat) : Int)), .inl (.bool true), x34, x35, x36, x37, x38, x39, x40, x41, x42, x43, x44, x45, x46, x47, x48, x49, uu, uu, uu, uu, uu, uu, uu, uu, uu, uu, uu, uu, uu, uu, uu, uu, uu, uu, uu, uu, uu, uu, uu, uu, uu, uu, uu, uu, uu, uu, uu, uu, uu, uu, uu, uu, uu, uu, uu, uu, uu, uu, uu, uu, uu, uu, uu, uu, uu, uu, uu, uu, uu, uu, uu, uu] [(ai 44 (foF (tV N r) f), 95), (ai 22 (fun _ => 0), 35)] [(ai 44 (foF (tV N r) f), 95), (ai 22 (fun _ => 0), 35)] [#[], #[]] [nn, nn] (by kernel_rfl) (by kernel_rfl) (by kernel_rfl) (by kernel_rfl) (by kernel_rfl) (by kernel_rfl) (by kernel_rfl) (by kernel_rfl) ?_ ?_
        · refine ok_cons (ok_mv (Or.inl rfl) (by kernel_rfl) rfl (by kernel_rfl) (by kernel_rfl)) ?_
          refine ok_cons (ok_bin (x1 := .int .i64 ((f : Nat) : Int)) (u1 := .int .i64 ((22 : Nat) : Int)) (v := .bool true) (lt_i (m := ((f : Nat) : Int)) (n := ((22 : Nat) : Int)) (decide_eq_true (by omega))) rfl (by kernel_rfl) rfl (by kernel_rfl) (by kernel_rfl) (by kernel_rfl) (by kernel_rfl) (by kernel_rfl)) ?_
          exact ok_nil
        clear h; intro β a w h
        refine sym_then ?_
        refine sym_cond_t h (by kernel_rfl) (by kernel_rfl) ?_
        refine wp_skip ?_
        refine sym_then ?_
        refine sym_seq ?_
        refine blk_in ?_
        refine sym_seq ?_
        refine St.region h [.inl (.agg (ai 44 F)), .inr (0, 0), .inr (1, 0), .inl (.int .i64 ((r : Nat) : Int)), .inl (.int .i64 (((cr (oF F N r) 44) : Nat) : Int)), .inl (.int .i64 ((44 : Nat) : Int)), x6, .inl (.int .i64 ((f : Nat) : Int)), uu, uu, uu, uu, uu, .inl (.int .i64 ((r : Nat) : Int)), .inl (.bool true), x15, x16, .inl (.int .i64 ((44 : Nat) : Int)), .inl (.bool false), x19, x20, x21, x22, x23, x24, x25, x26, x27, x28, x29, x30, x31, .inl (.int .i64 ((f : Nat) : Int)), .inl (.bool true), x34, x35, .inl (.int .i64 ((f : Nat) : Int)), .inl (.int .i64 ((f : Nat) : Int)), .inr (0, f), .inl (.int .i64 ((((foF (tV N r) f) f) : Nat) : Int)), .inl (.int .i64 ((f : Nat) : Int)), .inl (.int .i64 (((f + 22) : Nat) : Int)), .inr (0, (f + 22)), .inl (.int .i64 ((((foF (tV N r) f) (f + 22)) : Nat) : Int)), .inl (.int .i64 (((9728 * ((foF (tV N r) f) (f + 22))) : Nat) : Int)), .inl (.int .i64 (((((foF (tV N r) f) f) + (9728 * ((foF (tV N r) f) (f + 22)))) : Nat) : Int)), .inr (0, f), x47, x48, x49, uu, uu, uu, uu, uu, uu, uu, uu, uu, uu, uu, uu, uu, uu, uu, uu, uu, uu, uu, uu, uu, uu, uu, uu, uu, uu, uu, uu, uu, uu, uu, uu, uu, uu, uu, uu, uu, uu, uu, uu, uu, uu, uu, uu, uu, uu, uu, uu, uu, uu, uu, uu, uu, uu, uu, uu] [(ai 44 (updN (foF (tV N r) f) f (((foF (tV N r) f) f) + (9728 * ((foF (tV N r) f) (f + 22))))), 95), (ai 22 (fun _ => 0), 35)] [(ai 44 (foF (tV N r) f), 95), (ai 22 (fun _ => 0), 35)] [ai 44 (updN (foF (tV N r) f) f (((foF (tV N r) f) f) + (9728 * ((foF (tV N r) f) (f + 22))))), #[]] [nn, nn, nn, ⟨none, none, some 0, false⟩, nn, nn, nn, ⟨none, none, some 0, false⟩, nn, nn, nn, ⟨none, some 0, none, false⟩] (by kernel_rfl) (by kernel_rfl) (by kernel_rfl) (by kernel_rfl) (by kernel_rfl) (by kernel_rfl) (by kernel_rfl) (by kernel_rfl) ?_ ?_
        · refine ok_cons (ok_mv (Or.inl rfl) (by kernel_rfl) rfl (by kernel_rfl) (by kernel_rfl)) ?_
          refine ok_cons (ok_mv (Or.inl rfl) (by kernel_rfl) rfl (by kernel_rfl) (by kernel_rfl)) ?_
          refine ok_cons (ok_iaddr (b := 0) (off := 0) (off' := f) (u := .int .i64 ((f : Nat) : Int)) (ix44 (i := f) (by omega)) rfl (by kernel_rfl) rfl (by kernel_rfl) (by kernel_rfl) (by kernel_rfl) (by kernel_rfl)) ?_
          refine ok_cons (ok_load (b := 0) (off := f) (c := ai 44 (foF (tV N r) f)) (v := .int .i64 ((((foF (tV N r) f) f) : Nat) : Int)) (ld_at (n := 44) (F := (foF (tV N r) f)) (i := f) (t0 := 95) (by omega)) rfl (by kernel_rfl) rfl (by kernel_rfl) (by kernel_rfl) (by kernel_rfl)) ?_
          refine ok_cons (ok_mv (Or.inl rfl) (by kernel_rfl) rfl (by kernel_rfl) (by kernel_rfl)) ?_
          refine ok_cons (ok_bin (x1 := .int .i64 ((f : Nat) : Int)) (u1 := .int .i64 ((22 : Nat) : Int)) (v := .int .i64 (((f + 22) : Nat) : Int)) (ad_i (m := f) (n := 22) (by omega)) rfl (by kernel_rfl) rfl (by kernel_rfl) (by kernel_rfl) (by kernel_rfl) (by kernel_rfl) (by kernel_rfl)) ?_
          refine ok_cons (ok_iaddr (b := 0) (off := 0) (off' := (f + 22)) (u := .int .i64 (((f + 22) : Nat) : Int)) (ix44 (i := (f + 22)) (by omega)) rfl (by kernel_rfl) rfl (by kernel_rfl) (by kernel_rfl) (by kernel_rfl) (by kernel_rfl)) ?_
          refine ok_cons (ok_load (b := 0) (off := (f + 22)) (c := ai 44 (foF (tV N r) f)) (v := .int .i64 ((((foF (tV N r) f) (f + 22)) : Nat) : Int)) (ld_at (n := 44) (F := (foF (tV N r) f)) (i := (f + 22)) (t0 := 95) (by omega)) rfl (by kernel_rfl) rfl (by kernel_rfl) (by kernel_rfl) (by kernel_rfl)) ?_
          refine ok_cons (ok_bin (x1 := .int .i64 ((9728 : Nat) : Int)) (u1 := .int .i64 ((((foF (tV N r) f) (f + 22)) : Nat) : Int)) (v := .int .i64 (((9728 * ((foF (tV N r) f) (f + 22))) : Nat) : Int)) (mu_i (m := 9728) (n := ((foF (tV N r) f) (f + 22))) (by omega)) rfl (by kernel_rfl) rfl (by kernel_rfl) (by kernel_rfl) (by kernel_rfl) (by kernel_rfl) (by kernel_rfl)) ?_
          refine ok_cons (ok_bin (x1 := .int .i64 ((((foF (tV N r) f) f) : Nat) : Int)) (u1 := .int .i64 (((9728 * ((foF (tV N r) f) (f + 22))) : Nat) : Int)) (v := .int .i64 (((((foF (tV N r) f) f) + (9728 * ((foF (tV N r) f) (f + 22)))) : Nat) : Int)) (ad_i (m := ((foF (tV N r) f) f)) (n := (9728 * ((foF (tV N r) f) (f + 22)))) (by omega)) rfl (by kernel_rfl) rfl (by kernel_rfl) (by kernel_rfl) (by kernel_rfl) (by kernel_rfl) (by kernel_rfl)) ?_
          refine ok_cons (ok_iaddr (b := 0) (off := 0) (off' := f) (u := .int .i64 ((f : Nat) : Int)) (ix44 (i := f) (by omega)) rfl (by kernel_rfl) rfl (by kernel_rfl) (by kernel_rfl) (by kernel_rfl) (by kernel_rfl)) ?_
          refine ok_cons (ok_store (b := 0) (off := f) (u := .int .i64 (((((foF (tV N r) f) f) + (9728 * ((foF (tV N r) f) (f + 22)))) : Nat) : Int)) (c := ai 44 (foF (tV N r) f)) (n := ai 44 (updN (foF (tV N r) f) f (((foF (tV N r) f) f) + (9728 * ((foF (tV N r) f) (f + 22)))))) (st_at (n := 44) (F := (foF (tV N r) f)) (i := f) (v := (((foF (tV N r) f) f) + (9728 * ((foF (tV N r) f) (f + 22))))) (t0 := 95) (by omega)) rfl (by kernel_rfl) rfl (by kernel_rfl) (by kernel_rfl) (by kernel_rfl) (by kernel_rfl) (by kernel_rfl)) ?_
          exact ok_nil
        clear h; intro β a w h
        refine sym_then ?_
        refine St.region h [.inl (.agg (ai 44 F)), .inr (0, 0), .inr (1, 0), .inl (.int .i64 ((r : Nat) : Int)), .inl (.int .i64 (((cr (oF F N r) 44) : Nat) : Int)), .inl (.int .i64 ((44 : Nat) : Int)), x6, .inl (.int .i64 ((f : Nat) : Int)), uu, uu, uu, uu, uu, .inl (.int .i64 ((r : Nat) : Int)), .inl (.bool true), x15, x16, .inl (.int .i64 ((44 : Nat) : Int)), .inl (.bool false), x19, x20, x21, x22, x23, x24, x25, x26, x27, x28, x29, x30, x31, .inl (.int .i64 ((f : Nat) : Int)), .inl (.bool true), x34, x35, .inl (.int .i64 ((f : Nat) : Int)), .inl (.int .i64 ((f : Nat) : Int)), .inr (0, f), .inl (.int .i64 ((((foF (tV N r) f) f) : Nat) : Int)), .inl (.int .i64 ((f : Nat) : Int)), .inl (.int .i64 (((f + 22) : Nat) : Int)), .inr (0, (f + 22)), .inl (.int .i64 ((((foF (tV N r) f) (f + 22)) : Nat) : Int)), .inl (.int .i64 (((9728 * ((foF (tV N r) f) (f + 22))) : Nat) : Int)), .inl (.int .i64 (((((foF (tV N r) f) f) + (9728 * ((foF (tV N r) f) (f + 22)))) : Nat) : Int)), .inr (0, f), .inl (.int .i64 ((f : Nat) : Int)), .inl (.int .i64 (((f + 22) : Nat) : Int)), .inr (0, (f + 22)), uu, uu, uu, uu, uu, uu, uu, uu, uu, uu, uu, uu, uu, uu, uu, uu, uu, uu, uu, uu, uu, uu, uu, uu, uu, uu, uu, uu, uu, uu, uu, uu, uu, uu, uu, uu, uu, uu, uu, uu, uu, uu, uu, uu, uu, uu, uu, uu, uu, uu, uu, uu, uu, uu, uu, uu] [(ai 44 (updN (updN (foF (tV N r) f) f (((foF (tV N r) f) f) + (9728 * ((foF (tV N r) f) (f + 22))))) (f + 22) 0), 95), (ai 22 (fun _ => 0), 35)] [(ai 44 (updN (foF (tV N r) f) f (((foF (tV N r) f) f) + (9728 * ((foF (tV N r) f) (f + 22))))), 95), (ai 22 (fun _ => 0), 35)] [ai 44 (updN (updN (foF (tV N r) f) f (((foF (tV N r) f) f) + (9728 * ((foF (tV N r) f) (f + 22))))) (f + 22) 0), #[]] [nn, nn, nn, ⟨none, some 0, none, false⟩] (by kernel_rfl) (by kernel_rfl) (by kernel_rfl) (by kernel_rfl) (by kernel_rfl) (by kernel_rfl) (by kernel_rfl) (by kernel_rfl) ?_ ?_
        · refine ok_cons (ok_mv (Or.inl rfl) (by kernel_rfl) rfl (by kernel_rfl) (by kernel_rfl)) ?_
          refine ok_cons (ok_bin (x1 := .int .i64 ((f : Nat) : Int)) (u1 := .int .i64 ((22 : Nat) : Int)) (v := .int .i64 (((f + 22) : Nat) : Int)) (ad_i (m := f) (n := 22) (by omega)) rfl (by kernel_rfl) rfl (by kernel_rfl) (by kernel_rfl) (by kernel_rfl) (by kernel_rfl) (by kernel_rfl)) ?_
          refine ok_cons (ok_iaddr (b := 0) (off := 0) (off' := (f + 22)) (u := .int .i64 (((f + 22) : Nat) : Int)) (ix44 (i := (f + 22)) (by omega)) rfl (by kernel_rfl) rfl (by kernel_rfl) (by kernel_rfl) (by kernel_rfl) (by kernel_rfl)) ?_
          refine ok_cons (ok_store (b := 0) (off := (f + 22)) (u := .int .i64 ((0 : Nat) : Int)) (c := ai 44 (updN (foF (tV N r) f) f (((foF (tV N r) f) f) + (9728 * ((foF (tV N r) f) (f + 22)))))) (n := ai 44 (updN (updN (foF (tV N r) f) f (((foF (tV N r) f) f) + (9728 * ((foF (tV N r) f) (f + 22))))) (f + 22) 0)) (st_at (n := 44) (F := (updN (foF (tV N r) f) f (((foF (tV N r) f) f) + (9728 * ((foF (tV N r) f) (f + 22)))))) (i := (f + 22)) (v := 0) (t0 := 95) (by omega)) rfl (by kernel_rfl) rfl (by kernel_rfl) (by kernel_rfl) (by kernel_rfl) (by kernel_rfl) (by kernel_rfl)) ?_
          exact ok_nil
        clear h; intro β a w h
        refine blk_norm ?_
        refine sym_then ?_
        refine St.region h [.inl (.agg (ai 44 F)), .inr (0, 0), .inr (1, 0), .inl (.int .i64 ((r : Nat) : Int)), .inl (.int .i64 (((cr (oF F N r) 44) : Nat) : Int)), .inl (.int .i64 ((44 : Nat) : Int)), x6, .inl (.int .i64 (((f + 1) : Nat) : Int)), uu, uu, uu, uu, uu, .inl (.int .i64 ((r : Nat) : Int)), .inl (.bool true), x15, x16, .inl (.int .i64 ((44 : Nat) : Int)), .inl (.bool false), x19, x20, x21, x22, x23, x24, x25, x26, x27, x28, x29, x30, x31, .inl (.int .i64 ((f : Nat) : Int)), .inl (.bool true), .inl (.int .i64 ((f : Nat) : Int)), .inl (.int .i64 (((f + 1) : Nat) : Int)), .inl (.int .i64 ((f : Nat) : Int)), .inl (.int .i64 ((f : Nat) : Int)), .inr (0, f), .inl (.int .i64 ((((foF (tV N r) f) f) : Nat) : Int)), .inl (.int .i64 ((f : Nat) : Int)), .inl (.int .i64 (((f + 22) : Nat) : Int)), .inr (0, (f + 22)), .inl (.int .i64 ((((foF (tV N r) f) (f + 22)) : Nat) : Int)), .inl (.int .i64 (((9728 * ((foF (tV N r) f) (f + 22))) : Nat) : Int)), .inl (.int .i64 (((((foF (tV N r) f) f) + (9728 * ((foF (tV N r) f) (f + 22)))) : Nat) : Int)), .inr (0, f), .inl (.int .i64 ((f : Nat) : Int)), .inl (.int .i64 (((f + 22) : Nat) : Int)), .inr (0, (f + 22)), uu, uu, uu, uu, uu, uu, uu, uu, uu, uu, uu, uu, uu, uu, uu, uu, uu, uu, uu, uu, uu, uu, uu, uu, uu, uu, uu, uu, uu, uu, uu, uu, uu, uu, uu, uu, uu, uu, uu, uu, uu, uu, uu, uu, uu, uu, uu, uu, uu, uu, uu, uu, uu, uu, uu, uu] [(ai 44 (updN (updN (foF (tV N r) f) f (((foF (tV N r) f) f) + (9728 * ((foF (tV N r) f) (f + 22))))) (f + 22) 0), 95), (ai 22 (fun _ => 0), 35)] [(ai 44 (updN (updN (foF (tV N r) f) f (((foF (tV N r) f) f) + (9728 * ((foF (tV N r) f) (f + 22))))) (f + 22) 0), 95), (ai 22 (fun _ => 0), 35)] [#[], #[]] [⟨none, none, none, true⟩, nn, nn] (by kernel_rfl) (by kernel_rfl) (by kernel_rfl) (by kernel_rfl) (by kernel_rfl) (by kernel_rfl) (by kernel_rfl) (by kernel_rfl) ?_ ?_
        · refine ok_cons (ok_mv0 rfl (by kernel_rfl) rfl (by kernel_rfl) (by kernel_rfl)) ?_
          refine ok_cons (ok_bin (x1 := .int .i64 ((f : Nat) : Int)) (u1 := .int .i64 ((1 : Nat) : Int)) (v := .int .i64 (((f + 1) : Nat) : Int)) (ad_i (m := f) (n := 1) (by omega)) rfl (by kernel_rfl) rfl (by kernel_rfl) (by kernel_rfl) (by kernel_rfl) (by kernel_rfl) (by kernel_rfl)) ?_
          refine ok_cons (ok_mv (Or.inr rfl) (by kernel_rfl) rfl (by kernel_rfl) (by kernel_rfl)) ?_
          exact ok_nil
        clear h; intro β a w h
        replace h := St.setm h 0 (c := ai 44 (updN (updN (foF (tV N r) f) f (((foF (tV N r) f) f) + (9728 * ((foF (tV N r) f) (f + 22))))) (f + 22) 0)) (c' := ai 44 (foF (tV N r) (f + 1))) (t := 95) (m' := [(ai 44 (foF (tV N r) (f + 1)), 95), (ai 22 (fun _ => 0), 35)]) (foF_next hltf) (by kernel_rfl) (by kernel_rfl)
        exact ⟨hltf, _, _, _, _, _, _, _, _, _, _, _, _, _, _, _, _, _, _, _, h⟩
      · obtain rfl : f = 22 := by omega
        refine sym_seq ?_
        refine sym_seq ?_
        refine St.region h [.inl (.agg (ai 44 F)), .inr (0, 0), .inr (1, 0), .inl (.int .i64 ((r : Nat) : Int)), .inl (.int .i64 (((cr (oF F N r) 44) : Nat) : Int)), .inl (.int .i64 ((44 : Nat) : Int)), x6, .inl (.int .i64 ((22 : Nat) : Int)), uu, uu, uu, uu, uu, .inl (.int .i64 ((r : Nat) : Int)), .inl (.bool true), x15, x16, .inl (.int .i64 ((44 : Nat) : Int)), .inl (.bool false), x19, x20, x21, x22, x23, x24, x25, x26, x27, x28, x29, x30, x31, .inl (.int .i64 ((22 : Nat) : Int)), .inl (.bool false), x34, x35, x36, x37, x38, x39, x40, x41, x42, x43, x44, x45, x46, x47, x48, x49, uu, uu, uu, uu, uu, uu, uu, uu, uu, uu, uu, uu, uu, uu, uu, uu, uu, uu, uu, uu, uu, uu, uu, uu, uu, uu, uu, uu, uu, uu, uu, uu, uu, uu, uu, uu, uu, uu, uu, uu, uu, uu, uu, uu, uu, uu, uu, uu, uu, uu, uu, uu, uu, uu, uu, uu] [(ai 44 (foF (tV N r) 22), 95), (ai 22 (fun _ => 0), 35)] [(ai 44 (foF (tV N r) 22), 95), (ai 22 (fun _ => 0), 35)] [#[], #[]] [nn, nn] (by kernel_rfl) (by kernel_rfl) (by kernel_rfl) (by kernel_rfl) (by kernel_rfl) (by kernel_rfl) (by kernel_rfl) (by kernel_rfl) ?_ ?_
        · refine ok_cons (ok_mv (Or.inl rfl) (by kernel_rfl) rfl (by kernel_rfl) (by kernel_rfl)) ?_
          refine ok_cons (ok_bin (x1 := .int .i64 ((22 : Nat) : Int)) (u1 := .int .i64 ((22 : Nat) : Int)) (v := .bool false) (lt_i (m := ((22 : Nat) : Int)) (n := ((22 : Nat) : Int)) (decide_eq_false (by omega))) rfl (by kernel_rfl) rfl (by kernel_rfl) (by kernel_rfl) (by kernel_rfl) (by kernel_rfl) (by kernel_rfl)) ?_
          exact ok_nil
        clear h; intro β a w h
        refine sym_then ?_
        refine sym_cond_f h (by kernel_rfl) (by kernel_rfl) ?_
        refine wp_exit ?_
        refine then_exit ?_
        refine then_exit ?_
        refine blk_exit ?_
        refine blk_norm ?_
        refine sym_then ?_
        refine St.region h [.inl (.agg (ai 44 F)), .inr (0, 0), .inr (1, 0), .inl (.int .i64 (((r + 1) : Nat) : Int)), .inl (.int .i64 (((cr (oF F N r) 44) : Nat) : Int)), .inl (.int .i64 ((44 : Nat) : Int)), x6, .inl (.int .i64 ((22 : Nat) : Int)), uu, uu, uu, uu, uu, .inl (.int .i64 ((r : Nat) : Int)), .inl (.bool true), .inl (.int .i64 ((r : Nat) : Int)), .inl (.int .i64 (((r + 1) : Nat) : Int)), .inl (.int .i64 ((44 : Nat) : Int)), .inl (.bool false), x19, x20, x21, x22, x23, x24, x25, x26, x27, x28, x29, x30, x31, .inl (.int .i64 ((22 : Nat) : Int)), .inl (.bool false), x34, x35, x36, x37, x38, x39, x40, x41, x42, x43, x44, x45, x46, x47, x48, x49, uu, uu, uu, uu, uu, uu, uu, uu, uu, uu, uu, uu, uu, uu, uu, uu, uu, uu, uu, uu, uu, uu, uu, uu, uu, uu, uu, uu, uu, uu, uu, uu, uu, uu, uu, uu, uu, uu, uu, uu, uu, uu, uu, uu, uu, uu, uu, uu, uu, uu, uu, uu, uu, uu, uu, uu] [(ai 44 (foF (tV N r) 22), 95), (ai 22 (fun _ => 0), 35)] [(ai 44 (foF (tV N r) 22), 95), (ai 22 (fun _ => 0), 35)] [#[], #[]] [⟨none, none, none, true⟩, nn, nn] (by kernel_rfl) (by kernel_rfl) (by kernel_rfl) (by kernel_rfl) (by kernel_rfl) (by kernel_rfl) (by kernel_rfl) (by kernel_rfl) ?_ ?_
        · refine ok_cons (ok_mv0 rfl (by kernel_rfl) rfl (by kernel_rfl) (by kernel_rfl)) ?_
          refine ok_cons (ok_bin (x1 := .int .i64 ((r : Nat) : Int)) (u1 := .int .i64 ((1 : Nat) : Int)) (v := .int .i64 (((r + 1) : Nat) : Int)) (ad_i (m := r) (n := 1) (by omega)) rfl (by kernel_rfl) rfl (by kernel_rfl) (by kernel_rfl) (by kernel_rfl) (by kernel_rfl) (by kernel_rfl)) ?_
          refine ok_cons (ok_mv (Or.inr rfl) (by kernel_rfl) rfl (by kernel_rfl) (by kernel_rfl)) ?_
          exact ok_nil
        clear h; intro β a w h
        replace h := St.setm h 0 (c := ai 44 (foF (tV N r) 22)) (c' := ai 44 (oF F N (r + 1))) (t := 95) (m' := [(ai 44 (oF F N (r + 1)), 95), (ai 22 (fun _ => 0), 35)]) (foF_end _) (by kernel_rfl) (by kernel_rfl)
        exact ⟨hltr, _, _, _, _, _, _, _, _, _, _, _, _, _, _, _, _, _, _, _, _, _, _, _, _, _, _, _, _, _, _, _, _, _, _, _, _, _, _, _, _, _, _, h⟩
  · obtain rfl : r = 5 := by omega
    refine sym_seq ?_
    refine sym_seq ?_
    refine St.region h [.inl (.agg (ai 44 F)), .inr (0, 0), .inr (1, 0), .inl (.int .i64 ((5 : Nat) : Int)), x4, x5, x6, x7, uu, uu, uu, uu, uu, .inl (.int .i64 ((5 : Nat) : Int)), .inl (.bool false), x15, x16, x17, x18, x19, x20, x21, x22, x23, x24, x25, x26, x27, x28, x29, x30, x31, x32, x33, x34, x35, x36, x37, x38, x39, x40, x41, x42, x43, x44, x45, x46, x47, x48, x49, uu, uu, uu, uu, uu, uu, uu, uu, uu, uu, uu, uu, uu, uu, uu, uu, uu, uu, uu, uu, uu, uu, uu, uu, uu, uu, uu, uu, uu, uu, uu, uu, uu, uu, uu, uu, uu, uu, uu, uu, uu, uu, uu, uu, uu, uu, uu, uu, uu, uu, uu, uu, uu, uu, uu, uu] [(ai 44 (oF F N 5), 95), (ai 22 (fun _ => 0), 35)] [(ai 44 (oF F N 5), 95), (ai 22 (fun _ => 0), 35)] [#[], #[]] [nn, nn] (by kernel_rfl) (by kernel_rfl) (by kernel_rfl) (by kernel_rfl) (by kernel_rfl) (by kernel_rfl) (by kernel_rfl) (by kernel_rfl) ?_ ?_
    · refine ok_cons (ok_mv (Or.inl rfl) (by kernel_rfl) rfl (by kernel_rfl) (by kernel_rfl)) ?_
      refine ok_cons (ok_bin (x1 := .int .i64 ((5 : Nat) : Int)) (u1 := .int .i64 ((5 : Nat) : Int)) (v := .bool false) (lt_i (m := ((5 : Nat) : Int)) (n := ((5 : Nat) : Int)) (decide_eq_false (by omega))) rfl (by kernel_rfl) rfl (by kernel_rfl) (by kernel_rfl) (by kernel_rfl) (by kernel_rfl) (by kernel_rfl)) ?_
      exact ok_nil
    clear h; intro β a w h
    refine sym_then ?_
    refine sym_cond_f h (by kernel_rfl) (by kernel_rfl) ?_
    refine wp_exit ?_
    refine then_exit ?_
    refine then_exit ?_
    refine blk_exit ?_
    refine sym_then ?_
    refine sym_seq ?_
    refine sym_seq ?_
    refine St.region h [.inl (.agg (ai 44 F)), .inr (0, 0), .inr (1, 0), .inl (.int .i64 ((5 : Nat) : Int)), x4, x5, x6, x7, .inl (.int .i64 ((0 : Nat) : Int)), uu, uu, uu, uu, .inl (.int .i64 ((5 : Nat) : Int)), .inl (.bool false), x15, x16, x17, x18, x19, x20, x21, x22, x23, x24, x25, x26, x27, x28, x29, x30, x31, x32, x33, x34, x35, x36, x37, x38, x39, x40, x41, x42, x43, x44, x45, x46, x47, x48, x49, uu, uu, uu, uu, uu, uu, uu, uu, uu, uu, uu, uu, uu, uu, uu, uu, uu, uu, uu, uu, uu, uu, uu, uu, uu, uu, uu, uu, uu, uu, uu, uu, uu, uu, uu, uu, uu, uu, uu, uu, uu, uu, uu, uu, uu, uu, uu, uu, uu, uu, uu, uu, uu, uu, uu, uu] [(ai 44 (oF F N 5), 95), (ai 22 (fun _ => 0), 35)] [(ai 44 (oF F N 5), 95), (ai 22 (fun _ => 0), 35)] [#[], #[]] [nn] (by kernel_rfl) (by kernel_rfl) (by kernel_rfl) (by kernel_rfl) (by kernel_rfl) (by kernel_rfl) (by kernel_rfl) (by kernel_rfl) ?_ ?_
    · refine ok_cons (ok_mv (Or.inr rfl) (by kernel_rfl) rfl (by kernel_rfl) (by kernel_rfl)) ?_
      exact ok_nil
    clear h; intro β a w h
    refine sym_then ?_
    refine blk_in ?_
    replace h := St.setm h 0 (c := ai 44 (oF F N 5)) (c' := ai 44 (dg (uV U 0))) (t := 95) (m' := [(ai 44 (dg (uV U 0)), 95), (ai 22 (fun _ => 0), 35)]) oF_end' (by kernel_rfl) (by kernel_rfl)
    refine loop_up 2 (fun q a w => ∃ (x9 x10 x50 x51 x52 x53 x54 x55 x56 x57 x58 x59 x60 x61 x62 x63 x64 x65 x66 x67 x68 x69 x70 x71 x72 x73 x74 x75 x76 x77 x78 x79 x80 x81 x82 x83 x84 x85 x86 x87 x88 : SV) (β : Nat → Nat), St W0 [.inl (.agg (ai 44 F)), .inr (0, 0), .inr (1, 0), .inl (.int .i64 ((5 : Nat) : Int)), x4, x5, x6, x7, .inl (.int .i64 ((q : Nat) : Int)), x9, x10, uu, uu, .inl (.int .i64 ((5 : Nat) : Int)), .inl (.bool false), x15, x16, x17, x18, x19, x20, x21, x22, x23, x24, x25, x26, x27, x28, x29, x30, x31, x32, x33, x34, x35, x36, x37, x38, x39, x40, x41, x42, x43, x44, x45, x46, x47, x48, x49, x50, x51, x52, x53, x54, x55, x56, x57, x58, x59, x60, x61, x62, x63, x64, x65, x66, x67, x68, x69, x70, x71, x72, x73, x74, x75, x76, x77, x78, x79, x80, x81, x82, x83, x84, x85, x86, x87, x88, uu, uu, uu, uu, uu, uu, uu, uu, uu, uu, uu, uu, uu, uu, uu, uu, uu] [(ai 44 (dg (uV U q)), 95), (ai 22 (fun _ => 0), 35)] β a w) ⟨_, _, _, _, _, _, _, _, _, _, _, _, _, _, _, _, _, _, _, _, _, _, _, _, _, _, _, _, _, _, _, _, _, _, _, _, _, _, _, _, _, β, h⟩ ?_
    clear h; rintro q a w hkq ⟨x9, x10, x50, x51, x52, x53, x54, x55, x56, x57, x58, x59, x60, x61, x62, x63, x64, x65, x66, x67, x68, x69, x70, x71, x72, x73, x74, x75, x76, x77, x78, x79, x80, x81, x82, x83, x84, x85, x86, x87, x88, β, h⟩
    have g1 := dg_lt (uV U q) 21
    have g2 := dg_lt (uV U q) 0
    have g3 : updN (dg (uV U q)) 21 (dg (uV U q) 21 % 8) 0 = dg (uV U q) 0 := by simp [updN]
    rcases Nat.lt_or_ge q 2 with hltq | hgeq
    · refine sym_seq ?_
      refine sym_seq ?_
      refine St.region h [.inl (.agg (ai 44 F)), .inr (0, 0), .inr (1, 0), .inl (.int .i64 ((5 : Nat) : Int)), x4, x5, x6, x7, .inl (.int .i64 ((q : Nat) : Int)), x9, x10, uu, uu, .inl (.int .i64 ((5 : Nat) : Int)), .inl (.bool false), x15, x16, x17, x18, x19, x20, x21, x22, x23, x24, x25, x26, x27, x28, x29, x30, x31, x32, x33, x34, x35, x36, x37, x38, x39, x40, x41, x42, x43, x44, x45, x46, x47, x48, x49, .inl (.int .i64 ((q : Nat) : Int)), .inl (.bool true), x52, x53, x54, x55, x56, x57, x58, x59, x60, x61, x62, x63, x64, x65, x66, x67, x68, x69, x70, x71, x72, x73, x74, x75, x76, x77, x78, x79, x80, x81, x82, x83, x84, x85, x86, x87, x88, uu, uu, uu, uu, uu, uu, uu, uu, uu, uu, uu, uu, uu, uu, uu, uu, uu] [(ai 44 (dg (uV U q)), 95), (ai 22 (fun _ => 0), 35)] [(ai 44 (dg (uV U q)), 95), (ai 22 (fun _ => 0), 35)] [#[], #[]] [nn, nn] (by kernel_rfl) (by kernel_rfl) (by kernel_rfl) (by kernel_rfl) (by kernel_rfl) (by kernel_rfl) (by kernel_rfl) (by kernel_rfl) ?_ ?_
      · refine ok_cons (ok_mv (Or.inl rfl) (by kernel_rfl) rfl (by kernel_rfl) (by kernel_rfl)) ?_
        refine ok_cons (ok_bin (x1 := .int .i64 ((q : Nat) : Int)) (u1 := .int .i64 ((2 : Nat) : Int)) (v := .bool true) (lt_i (m := ((q : Nat) : Int)) (n := ((2 : Nat) : Int)) (decide_eq_true (by omega))) rfl (by kernel_rfl) rfl (by kernel_rfl) (by kernel_rfl) (by kernel_rfl) (by kernel_rfl) (by kernel_rfl)) ?_
        exact ok_nil
      clear h; intro β a w h
      refine sym_then ?_
      refine sym_cond_t h (by kernel_rfl) (by kernel_rfl) ?_
      refine wp_skip ?_
      refine sym_then ?_
      refine sym_seq ?_
      refine blk_in ?_
      refine sym_seq ?_
      refine St.region h [.inl (.agg (ai 44 F)), .inr (0, 0), .inr (1, 0), .inl (.int .i64 ((5 : Nat) : Int)), x4, x5, x6, x7, .inl (.int .i64 ((q : Nat) : Int)), .inl (.int .i64 (((((dg (uV U q)) 21) / 8) : Nat) : Int)), x10, uu, uu, .inl (.int .i64 ((5 : Nat) : Int)), .inl (.bool false), x15, x16, x17, x18, x19, x20, x21, x22, x23, x24, x25, x26, x27, x28, x29, x30, x31, x32, x33, x34, x35, x36, x37, x38, x39, x40, x41, x42, x43, x44, x45, x46, x47, x48, x49, .inl (.int .i64 ((q : Nat) : Int)), .inl (.bool true), x52, x53, .inr (0, 21), .inl (.int .i64 ((((dg (uV U q)) 21) : Nat) : Int)), .inl (.int .i64 (((((dg (uV U q)) 21) / 8) : Nat) : Int)), x57, x58, x59, x60, x61, x62, x63, x64, x65, x66, x67, x68, x69, x70, x71, x72, x73, x74, x75, x76, x77, x78, x79, x80, x81, x82, x83, x84, x85, x86, x87, x88, uu, uu, uu, uu, uu, uu, uu, uu, uu, uu, uu, uu, uu, uu, uu, uu, uu] [(ai 44 (dg (uV U q)), 95), (ai 22 (fun _ => 0), 35)] [(ai 44 (dg (uV U q)), 95), (ai 22 (fun _ => 0), 35)] [#[], #[]] [nn, ⟨none, none, some 0, false⟩, nn, nn] (by kernel_rfl) (by kernel_rfl) (by kernel_rfl) (by kernel_rfl) (by kernel_rfl) (by kernel_rfl) (by kernel_rfl) (by kernel_rfl) ?_ ?_
      · refine ok_cons (ok_iaddr (b := 0) (off := 0) (off' := 21) (u := .int .i64 ((21 : Nat) : Int)) (ix44 (i := 21) (by omega)) rfl (by kernel_rfl) rfl (by kernel_rfl) (by kernel_rfl) (by kernel_rfl) (by kernel_rfl)) ?_
        refine ok_cons (ok_load (b := 0) (off := 21) (c := ai 44 (dg (uV U q))) (v := .int .i64 ((((dg (uV U q)) 21) : Nat) : Int)) (ld_at (n := 44) (F := (dg (uV U q))) (i := 21) (t0 := 95) (by omega)) rfl (by kernel_rfl) rfl (by kernel_rfl) (by kernel_rfl) (by kernel_rfl)) ?_
        refine ok_cons (ok_bin (x1 := .int .i64 ((((dg (uV U q)) 21) : Nat) : Int)) (u1 := .int .i64 ((8 : Nat) : Int)) (v := .int .i64 (((((dg (uV U q)) 21) / 8) : Nat) : Int)) (qu_i (m := ((dg (uV U q)) 21)) (n := 8) (by decide) (by omega)) rfl (by kernel_rfl) rfl (by kernel_rfl) (by kernel_rfl) (by kernel_rfl) (by kernel_rfl) (by kernel_rfl)) ?_
        refine ok_cons (ok_mv (Or.inr rfl) (by kernel_rfl) rfl (by kernel_rfl) (by kernel_rfl)) ?_
        exact ok_nil
      clear h; intro β a w h
      refine sym_then ?_
      refine sym_seq ?_
      refine St.region h [.inl (.agg (ai 44 F)), .inr (0, 0), .inr (1, 0), .inl (.int .i64 ((5 : Nat) : Int)), x4, x5, x6, x7, .inl (.int .i64 ((q : Nat) : Int)), .inl (.int .i64 (((((dg (uV U q)) 21) / 8) : Nat) : Int)), x10, uu, uu, .inl (.int .i64 ((5 : Nat) : Int)), .inl (.bool false), x15, x16, x17, x18, x19, x20, x21, x22, x23, x24, x25, x26, x27, x28, x29, x30, x31, x32, x33, x34, x35, x36, x37, x38, x39, x40, x41, x42, x43, x44, x45, x46, x47, x48, x49, .inl (.int .i64 ((q : Nat) : Int)), .inl (.bool true), x52, x53, .inr (0, 21), .inl (.int .i64 ((((dg (uV U q)) 21) : Nat) : Int)), .inl (.int .i64 (((((dg (uV U q)) 21) / 8) : Nat) : Int)), .inr (0, 21), .inl (.int .i64 ((((dg (uV U q)) 21) : Nat) : Int)), .inl (.int .i64 (((((dg (uV U q)) 21) % 8) : Nat) : Int)), .inr (0, 21), x61, x62, x63, x64, x65, x66, x67, x68, x69, x70, x71, x72, x73, x74, x75, x76, x77, x78, x79, x80, x81, x82, x83, x84, x85, x86, x87, x88, uu, uu, uu, uu, uu, uu, uu, uu, uu, uu, uu, uu, uu, uu, uu, uu, uu] [(ai 44 (updN (dg (uV U q)) 21 (((dg (uV U q)) 21) % 8)), 95), (ai 22 (fun _ => 0), 35)] [(ai 44 (dg (uV U q)), 95), (ai 22 (fun _ => 0), 35)] [ai 44 (updN (dg (uV U q)) 21 (((dg (uV U q)) 21) % 8)), #[]] [nn, ⟨none, none, some 0, false⟩, nn, nn, ⟨none, some 0, none, false⟩] (by kernel_rfl) (by kernel_rfl) (by kernel_rfl) (by kernel_rfl) (by kernel_rfl) (by kernel_rfl) (by kernel_rfl) (by kernel_rfl) ?_ ?_
      · refine ok_cons (ok_iaddr (b := 0) (off := 0) (off' := 21) (u := .int .i64 ((21 : Nat) : Int)) (ix44 (i := 21) (by omega)) rfl (by kernel_rfl) rfl (by kernel_rfl) (by kernel_rfl) (by kernel_rfl) (by kernel_rfl)) ?_
        refine ok_cons (ok_load (b := 0) (off := 21) (c := ai 44 (dg (uV U q))) (v := .int .i64 ((((dg (uV U q)) 21) : Nat) : Int)) (ld_at (n := 44) (F := (dg (uV U q))) (i := 21) (t0 := 95) (by omega)) rfl (by kernel_rfl) rfl (by kernel_rfl) (by kernel_rfl) (by kernel_rfl)) ?_
        refine ok_cons (ok_bin (x1 := .int .i64 ((((dg (uV U q)) 21) : Nat) : Int)) (u1 := .int .i64 ((8 : Nat) : Int)) (v := .int .i64 (((((dg (uV U q)) 21) % 8) : Nat) : Int)) (re_i (m := ((dg (uV U q)) 21)) (n := 8) (by decide)) rfl (by kernel_rfl) rfl (by kernel_rfl) (by kernel_rfl) (by kernel_rfl) (by kernel_rfl) (by kernel_rfl)) ?_
        refine ok_cons (ok_iaddr (b := 0) (off := 0) (off' := 21) (u := .int .i64 ((21 : Nat) : Int)) (ix44 (i := 21) (by omega)) rfl (by kernel_rfl) rfl (by kernel_rfl) (by kernel_rfl) (by kernel_rfl) (by kernel_rfl)) ?_
        refine ok_cons (ok_store (b := 0) (off := 21) (u := .int .i64 (((((dg (uV U q)) 21) % 8) : Nat) : Int)) (c := ai 44 (dg (uV U q))) (n := ai 44 (updN (dg (uV U q)) 21 (((dg (uV U q)) 21) % 8))) (st_at (n := 44) (F := (dg (uV U q))) (i := 21) (v := (((dg (uV U q)) 21) % 8)) (t0 := 95) (by omega)) rfl (by kernel_rfl) rfl (by kernel_rfl) (by kernel_rfl) (by kernel_rfl) (by kernel_rfl) (by kernel_rfl)) ?_
        exact ok_nil
      clear h; intro β a w h
      refine sym_then ?_
      refine sym_seq ?_
      refine St.region h [.inl (.agg (ai 44 F)), .inr (0, 0), .inr (1, 0), .inl (.int .i64 ((5 : Nat) : Int)), x4, x5, x6, x7, .inl (.int .i64 ((q : Nat) : Int)), .inl (.int .i64 (((((dg (uV U q)) 21) / 8) : Nat) : Int)), x10, uu, uu, .inl (.int .i64 ((5 : Nat) : Int)), .inl (.bool false), x15, x16, x17, x18, x19, x20, x21, x22, x23, x24, x25, x26, x27, x28, x29, x30, x31, x32, x33, x34, x35, x36, x37, x38, x39, x40, x41, x42, x43, x44, x45, x46, x47, x48, x49, .inl (.int .i64 ((q : Nat) : Int)), .inl (.bool true), x52, x53, .inr (0, 21), .inl (.int .i64 ((((dg (uV U q)) 21) : Nat) : Int)), .inl (.int .i64 (((((dg (uV U q)) 21) / 8) : Nat) : Int)), .inr (0, 21), .inl (.int .i64 ((((dg (uV U q)) 21) : Nat) : Int)), .inl (.int .i64 (((((dg (uV U q)) 21) % 8) : Nat) : Int)), .inr (0, 21), .inr (0, 0), .inl (.int .i64 ((((updN (dg (uV U q)) 21 (((dg (uV U q)) 21) % 8)) 0) : Nat) : Int)), .inl (.int .i64 (((((dg (uV U q)) 21) / 8) : Nat) : Int)), .inl (.int .i64 (((19 * (((dg (uV U q)) 21) / 8)) : Nat) : Int)), .inl (.int .i64 (((((updN (dg (uV U q)) 21 (((dg (uV U q)) 21) % 8)) 0) + (19 * (((dg (uV U q)) 21) / 8))) : Nat) : Int)), .inr (0, 0), x67, x68, x69, x70, x71, x72, x73, x74, x75, x76, x77, x78, x79, x80, x81, x82, x83, x84, x85, x86, x87, x88, uu, uu, uu, uu, uu, uu, uu, uu, uu, uu, uu, uu, uu, uu, uu, uu, uu] [(ai 44 (updN (updN (dg (uV U q)) 21 (((dg (uV U q)) 21) % 8)) 0 (((updN (dg (uV U q)) 21 (((dg (uV U q)) 21) % 8)) 0) + (19 * (((dg (uV U q)) 21) / 8)))), 95), (ai 22 (fun _ => 0), 35)] [(ai 44 (updN (dg (uV U q)) 21 (((dg (uV U q)) 21) % 8)), 95), (ai 22 (fun _ => 0), 35)] [ai 44 (updN (updN (dg (uV U q)) 21 (((dg (uV U q)) 21) % 8)) 0 (((updN (dg (uV U q)) 21 (((dg (uV U q)) 21) % 8)) 0) + (19 * (((dg (uV U q)) 21) / 8)))), #[]] [nn, ⟨none, none, some 0, false⟩, nn, nn, nn, nn, ⟨none, some 0, none, false⟩] (by kernel_rfl) (by kernel_rfl) (by kernel_rfl) (by kernel_rfl) (by kernel_rfl) (by kernel_rfl) (by kernel_rfl) (by kernel_rfl) ?_ ?_
      · refine ok_cons (ok_iaddr (b := 0) (off := 0) (off' := 0) (u := .int .i64 ((0 : Nat) : Int)) (ix44 (i := 0) (by omega)) rfl (by kernel_rfl) rfl (by kernel_rfl) (by kernel_rfl) (by kernel_rfl) (by kernel_rfl)) ?_
        refine ok_cons (ok_load (b := 0) (off := 0) (c := ai 44 (updN (dg (uV U q)) 21 (((dg (uV U q)) 21) % 8))) (v := .int .i64 ((((updN (dg (uV U q)) 21 (((dg (uV U q)) 21) % 8)) 0) : Nat) : Int)) (ld_at (n := 44) (F := (updN (dg (uV U q)) 21 (((dg (uV U q)) 21) % 8))) (i := 0) (t0 := 95) (by omega)) rfl (by kernel_rfl) rfl (by kernel_rfl) (by kernel_rfl) (by kernel_rfl)) ?_
        refine ok_cons (ok_mv (Or.inl rfl) (by kernel_rfl) rfl (by kernel_rfl) (by kernel_rfl)) ?_
        refine ok_cons (ok_bin (x1 := .int .i64 ((19 : Nat) : Int)) (u1 := .int .i64 (((((dg (uV U q)) 21) / 8) : Nat) : Int)) (v := .int .i64 (((19 * (((dg (uV U q)) 21) / 8)) : Nat) : Int)) (mu_i (m := 19) (n := (((dg (uV U q)) 21) / 8)) (by omega)) rfl (by kernel_rfl) rfl (by kernel_rfl) (by kernel_rfl) (by kernel_rfl) (by kernel_rfl) (by kernel_rfl)) ?_
        refine ok_cons (ok_bin (x1 := .int .i64 ((((updN (dg (uV U q)) 21 (((dg (uV U q)) 21) % 8)) 0) : Nat) : Int)) (u1 := .int .i64 (((19 * (((dg (uV U q)) 21) / 8)) : Nat) : Int)) (v := .int .i64 (((((updN (dg (uV U q)) 21 (((dg (uV U q)) 21) % 8)) 0) + (19 * (((dg (uV U q)) 21) / 8))) : Nat) : Int)) (ad_i (m := ((updN (dg (uV U q)) 21 (((dg (uV U q)) 21) % 8)) 0)) (n := (19 * (((dg (uV U q)) 21) / 8))) (by omega)) rfl (by kernel_rfl) rfl (by kernel_rfl) (by kernel_rfl) (by kernel_rfl) (by kernel_rfl) (by kernel_rfl)) ?_
        refine ok_cons (ok_iaddr (b := 0) (off := 0) (off' := 0) (u := .int .i64 ((0 : Nat) : Int)) (ix44 (i := 0) (by omega)) rfl (by kernel_rfl) rfl (by kernel_rfl) (by kernel_rfl) (by kernel_rfl) (by kernel_rfl)) ?_
        refine ok_cons (ok_store (b := 0) (off := 0) (u := .int .i64 (((((updN (dg (uV U q)) 21 (((dg (uV U q)) 21) % 8)) 0) + (19 * (((dg (uV U q)) 21) / 8))) : Nat) : Int)) (c := ai 44 (updN (dg (uV U q)) 21 (((dg (uV U q)) 21) % 8))) (n := ai 44 (updN (updN (dg (uV U q)) 21 (((dg (uV U q)) 21) % 8)) 0 (((updN (dg (uV U q)) 21 (((dg (uV U q)) 21) % 8)) 0) + (19 * (((dg (uV U q)) 21) / 8))))) (st_at (n := 44) (F := (updN (dg (uV U q)) 21 (((dg (uV U q)) 21) % 8))) (i := 0) (v := (((updN (dg (uV U q)) 21 (((dg (uV U q)) 21) % 8)) 0) + (19 * (((dg (uV U q)) 21) / 8)))) (t0 := 95) (by omega)) rfl (by kernel_rfl) rfl (by kernel_rfl) (by kernel_rfl) (by kernel_rfl) (by kernel_rfl) (by kernel_rfl)) ?_
        exact ok_nil
      clear h; intro β a w h
      refine sym_then ?_
      refine sym_seq ?_
      refine St.region h [.inl (.agg (ai 44 F)), .inr (0, 0), .inr (1, 0), .inl (.int .i64 ((5 : Nat) : Int)), x4, x5, x6, x7, .inl (.int .i64 ((q : Nat) : Int)), .inl (.int .i64 (((((dg (uV U q)) 21) / 8) : Nat) : Int)), .inl (.int .i64 ((0 : Nat) : Int)), uu, uu, .inl (.int .i64 ((5 : Nat) : Int)), .inl (.bool false), x15, x16, x17, x18, x19, x20, x21, x22, x23, x24, x25, x26, x27, x28, x29, x30, x31, x32, x33, x34, x35, x36, x37, x38, x39, x40, x41, x42, x43, x44, x45, x46, x47, x48, x49, .inl (.int .i64 ((q : Nat) : Int)), .inl (.bool true), x52, x53, .inr (0, 21), .inl (.int .i64 ((((dg (uV U q)) 21) : Nat) : Int)), .inl (.int .i64 (((((dg (uV U q)) 21) / 8) : Nat) : Int)), .inr (0, 21), .inl (.int .i64 ((((dg (uV U q)) 21) : Nat) : Int)), .inl (.int .i64 (((((dg (uV U q)) 21) % 8) : Nat) : Int)), .inr (0, 21), .inr (0, 0), .inl (.int .i64 ((((updN (dg (uV U q)) 21 (((dg (uV U q)) 21) % 8)) 0) : Nat) : Int)), .inl (.int .i64 (((((dg (uV U q)) 21) / 8) : Nat) : Int)), .inl (.int .i64 (((19 * (((dg (uV U q)) 21) / 8)) : Nat) : Int)), .inl (.int .i64 (((((updN (dg (uV U q)) 21 (((dg (uV U q)) 21) % 8)) 0) + (19 * (((dg (uV U q)) 21) / 8))) : Nat) : Int)), .inr (0, 0), x67, x68, x69, x70, x71, x72, x73, x74, x75, x76, x77, x78, x79, x80, x81, x82, x83, x84, x85, x86, x87, x88, uu, uu, uu, uu, uu, uu, uu, uu, uu, uu, uu, uu, uu, uu, uu, uu, uu] [(ai 44 (updN (updN (dg (uV U q)) 21 (((dg (uV U q)) 21) % 8)) 0 (((updN (dg (uV U q)) 21 (((dg (uV U q)) 21) % 8)) 0) + (19 * (((dg (uV U q)) 21) / 8)))), 95), (ai 22 (fun _ => 0), 35)] [(ai 44 (updN (updN (dg (uV U q)) 21 (((dg (uV U q)) 21) % 8)) 0 (((updN (dg (uV U q)) 21 (((dg (uV U q)) 21) % 8)) 0) + (19 * (((dg (uV U q)) 21) / 8)))), 95), (ai 22 (fun _ => 0), 35)] [#[], #[]] [nn] (by kernel_rfl) (by kernel_rfl) (by kernel_rfl) (by kernel_rfl) (by kernel_rfl) (by kernel_rfl) (by kernel_rfl) (by kernel_rfl) ?_ ?_
      · refine ok_cons (ok_mv (Or.inr rfl) (by kernel_rfl) rfl (by kernel_rfl) (by kernel_rfl)) ?_
        exact ok_nil
      clear h; intro β a w h
      refine sym_then ?_
      refine blk_in ?_
      replace h := St.setm h 0 (c := ai 44 (updN (updN (dg (uV U q)) 21 (((dg (uV U q)) 21) % 8)) 0 (((updN (dg (uV U q)) 21 (((dg (uV U q)) 21) % 8)) 0) + (19 * (((dg (uV U q)) 21) / 8))))) (c' := ai 44 (seF (hF (uV U q)) 0)) (t := 95) (m' := [(ai 44 (seF (hF (uV U q)) 0), 95), (ai 22 (fun _ => 0), 35)]) (seF_zero (hF_upd _)) (by kernel_rfl) (by kernel_rfl)
      refine loop_up 21 (fun s a w => ∃ (x67 x68 x69 x70 x71 x72 x73 x74 x75 x76 x77 x78 x79 x80 x81 x82 x83 x84 x85 x86 x87 x88 : SV) (β : Nat → Nat), St W0 [.inl (.agg (ai 44 F)), .inr (0, 0), .inr (1, 0), .inl (.int .i64 ((5 : Nat) : Int)), x4, x5, x6, x7, .inl (.int .i64 ((q : Nat) : Int)), .inl (.int .i64 (((((dg (uV U q)) 21) / 8) : Nat) : Int)), .inl (.int .i64 ((s : Nat) : Int)), uu, uu, .inl (.int .i64 ((5 : Nat) : Int)), .inl (.bool false), x15, x16, x17, x18, x19, x20, x21, x22, x23, x24, x25, x26, x27, x28, x29, x30, x31, x32, x33, x34, x35, x36, x37, x38, x39, x40, x41, x42, x43, x44, x45, x46, x47, x48, x49, .inl (.int .i64 ((q : Nat) : Int)), .inl (.bool true), x52, x53, .inr (0, 21), .inl (.int .i64 ((((dg (uV U q)) 21) : Nat) : Int)), .inl (.int .i64 (((((dg (uV U q)) 21) / 8) : Nat) : Int)), .inr (0, 21), .inl (.int .i64 ((((dg (uV U q)) 21) : Nat) : Int)), .inl (.int .i64 (((((dg (uV U q)) 21) % 8) : Nat) : Int)), .inr (0, 21), .inr (0, 0), .inl (.int .i64 ((((updN (dg (uV U q)) 21 (((dg (uV U q)) 21) % 8)) 0) : Nat) : Int)), .inl (.int .i64 (((((dg (uV U q)) 21) / 8) : Nat) : Int)), .inl (.int .i64 (((19 * (((dg (uV U q)) 21) / 8)) : Nat) : Int)), .inl (.int .i64 (((((updN (dg (uV U q)) 21 (((dg (uV U q)) 21) % 8)) 0) + (19 * (((dg (uV U q)) 21) / 8))) : Nat) : Int)), .inr (0, 0), x67, x68, x69, x70, x71, x72, x73, x74, x75, x76, x77, x78, x79, x80, x81, x82, x83, x84, x85, x86, x87, x88, uu, uu, uu, uu, uu, uu, uu, uu, uu, uu, uu, uu, uu, uu, uu, uu, uu] [(ai 44 (seF (hF (uV U q)) s), 95), (ai 22 (fun _ => 0), 35)] β a w) ⟨_, _, _, _, _, _, _, _, _, _, _, _, _, _, _, _, _, _, _, _, _, _, β, h⟩ ?_
      clear h; rintro s a w hks ⟨x67, x68, x69, x70, x71, x72, x73, x74, x75, x76, x77, x78, x79, x80, x81, x82, x83, x84, x85, x86, x87, x88, β, h⟩
      have k1 := hF_lt (uV U q) s
      have k2 := hF_lt (uV U q) (s + 1)
      have k3 := cr_lt (hF_lt (uV U q)) s
      have k4 := seF_at (hF (uV U q)) s
      have k5 := seF_nx (hF (uV U q)) s
      rcases Nat.lt_or_ge s 21 with hlts | hges
      · refine sym_seq ?_
        refine sym_seq ?_
        refine St.region h [.inl (.agg (ai 44 F)), .inr (0, 0), .inr (1, 0), .inl (.int .i64 ((5 : Nat) : Int)), x4, x5, x6, x7, .inl (.int .i64 ((q : Nat) : Int)), .inl (.int .i64 (((((dg (uV U q)) 21) / 8) : Nat) : Int)), .inl (.int .i64 ((s : Nat) : Int)), uu, uu, .inl (.int .i64 ((5 : Nat) : Int)), .inl (.bool false), x15, x16, x17, x18, x19, x20, x21, x22, x23, x24, x25, x26, x27, x28, x29, x30, x31, x32, x33, x34, x35, x36, x37, x38, x39, x40, x41, x42, x43, x44, x45, x46, x47, x48, x49, .inl (.int .i64 ((q : Nat) : Int)), .inl (.bool true), x52, x53, .inr (0, 21), .inl (.int .i64 ((((dg (uV U q)) 21) : Nat) : Int)), .inl (.int .i64 (((((dg (uV U q)) 21) / 8) : Nat) : Int)), .inr (0, 21), .inl (.int .i64 ((((dg (uV U q)) 21) : Nat) : Int)), .inl (.int .i64 (((((dg (uV U q)) 21) % 8) : Nat) : Int)), .inr (0, 21), .inr (0, 0), .inl (.int .i64 ((((updN (dg (uV U q)) 21 (((dg (uV U q)) 21) % 8)) 0) : Nat) : Int)), .inl (.int .i64 (((((dg (uV U q)) 21) / 8) : Nat) : Int)), .inl (.int .i64 (((19 * (((dg (uV U q)) 21) / 8)) : Nat) : Int)), .inl (.int .i64 (((((updN (dg (uV U q)) 21 (((dg (uV U q)) 21) % 8)) 0) + (19 * (((dg (uV U q)) 21) / 8))) : Nat) : Int)), .inr (0, 0), .inl (.int .i64 ((s : Nat) : Int)), .inl (.bool true), x69, x70, x71, x72, x73, x74, x75, x76, x77, x78, x79, x80, x81, x82, x83, x84, x85, x86, x87, x88, uu, uu, uu, uu, uu, uu, uu, uu, uu, uu, uu, uu, uu, uu, uu, uu, uu] [(ai 44 (seF (hF (uV U q)) s), 95), (ai 22 (fun _ => 0), 35)] [(ai 44 (seF (hF (uV U q)) s), 95), (ai 22 (fun _ => 0), 35)] [#[], #[]] [nn, nn] (by kernel_rfl) (by kernel_rfl) (by kernel_rfl) (by kernel_rfl) (by kernel_rfl) (by kernel_rfl) (by kernel_rfl) (by kernel_rfl) ?_ ?_
        · refine ok_cons (ok_mv (Or.inl rfl) (by kernel_rfl) rfl (by kernel_rfl) (by kernel_rfl)) ?_
          refine ok_cons (ok_bin (x1 := .int .i64 ((s : Nat) : Int)) (u1 := .int .i64 ((21 : Nat) : Int)) (v := .bool true) (lt_i (m := ((s : Nat) : Int)) (n := ((21 : Nat) : Int)) (decide_eq_true (by omega))) rfl (by kernel_rfl) rfl (by kernel_rfl) (by kernel_rfl) (by kernel_rfl) (by kernel_rfl) (by kernel_rfl)) ?_
          exact ok_nil
        clear h; intro β a w h
        refine sym_then ?_
        refine sym_cond_t h (by kernel_rfl) (by kernel_rfl) ?_
        refine wp_skip ?_
        refine sym_then ?_
        refine sym_seq ?_
        refine blk_in ?_
        refine sym_seq ?_
        refine St.region h [.inl (.agg (ai 44 F)), .inr (0, 0), .inr (1, 0), .inl (.int .i64 ((5 : Nat) : Int)), x4, x5, x6, x7, .inl (.int .i64 ((q : Nat) : Int)), .inl (.int .i64 (((((dg (uV U q)) 21) / 8) : Nat) : Int)), .inl (.int .i64 ((s : Nat) : Int)), uu, uu, .inl (.int .i64 ((5 : Nat) : Int)), .inl (.bool false), x15, x16, x17, x18, x19, x20, x21, x22, x23, x24, x25, x26, x27, x28, x29, x30, x31, x32, x33, x34, x35, x36, x37, x38, x39, x40, x41, x42, x43, x44, x45, x46, x47, x48, x49, .inl (.int .i64 ((q : Nat) : Int)), .inl (.bool true), x52, x53, .inr (0, 21), .inl (.int .i64 ((((dg (uV U q)) 21) : Nat) : Int)), .inl (.int .i64 (((((dg (uV U q)) 21) / 8) : Nat) : Int)), .inr (0, 21), .inl (.int .i64 ((((dg (uV U q)) 21) : Nat) : Int)), .inl (.int .i64 (((((dg (uV U q)) 21) % 8) : Nat) : Int)), .inr (0, 21), .inr (0, 0), .inl (.int .i64 ((((updN (dg (uV U q)) 21 (((dg (uV U q)) 21) % 8)) 0) : Nat) : Int)), .inl (.int .i64 (((((dg (uV U q)) 21) / 8) : Nat) : Int)), .inl (.int .i64 (((19 * (((dg (uV U q)) 21) / 8)) : Nat) : Int)), .inl (.int .i64 (((((updN (dg (uV U q)) 21 (((dg (uV U q)) 21) % 8)) 0) + (19 * (((dg (uV U q)) 21) / 8))) : Nat) : Int)), .inr (0, 0), .inl (.int .i64 ((s : Nat) : Int)), .inl (.bool true), x69, x70, .inl (.int .i64 ((s : Nat) : Int)), .inl (.int .i64 (((s + 1) : Nat) : Int)), .inl (.int .i64 ((s : Nat) : Int)), .inl (.int .i64 (((s + 1) : Nat) : Int)), .inr (0, (s + 1)), .inl (.int .i64 ((((seF (hF (uV U q)) s) (s + 1)) : Nat) : Int)), .inl (.int .i64 ((s : Nat) : Int)), .inr (0, s), .inl (.int .i64 ((((seF (hF (uV U q)) s) s) : Nat) : Int)), .inl (.int .i64 (((((seF (hF (uV U q)) s) s) / 4096) : Nat) : Int)), .inl (.int .i64 (((((seF (hF (uV U q)) s) (s + 1)) + (((seF (hF (uV U q)) s) s) / 4096)) : Nat) : Int)), .inr (0, (s + 1)), x83, x84, x85, x86, x87, x88, uu, uu, uu, uu, uu, uu, uu, uu, uu, uu, uu, uu, uu, uu, uu, uu, uu] [(ai 44 (updN (seF (hF (uV U q)) s) (s + 1) (((seF (hF (uV U q)) s) (s + 1)) + (((seF (hF (uV U q)) s) s) / 4096))), 95), (ai 22 (fun _ => 0), 35)] [(ai 44 (seF (hF (uV U q)) s), 95), (ai 22 (fun _ => 0), 35)] [ai 44 (updN (seF (hF (uV U q)) s) (s + 1) (((seF (hF (uV U q)) s) (s + 1)) + (((seF (hF (uV U q)) s) s) / 4096))), #[]] [nn, nn, nn, nn, nn, ⟨none, none, some 0, false⟩, nn, nn, ⟨none, none, some 0, false⟩, nn, nn, nn, ⟨none, some 0, none, false⟩] (by kernel_rfl) (by kernel_rfl) (by kernel_rfl) (by kernel_rfl) (by kernel_rfl) (by kernel_rfl) (by kernel_rfl) (by kernel_rfl) ?_ ?_
        · refine ok_cons (ok_mv (Or.inl rfl) (by kernel_rfl) rfl (by kernel_rfl) (by kernel_rfl)) ?_
          refine ok_cons (ok_bin (x1 := .int .i64 ((s : Nat) : Int)) (u1 := .int .i64 ((1 : Nat) : Int)) (v := .int .i64 (((s + 1) : Nat) : Int)) (ad_i (m := s) (n := 1) (by omega)) rfl (by kernel_rfl) rfl (by kernel_rfl) (by kernel_rfl) (by kernel_rfl) (by kernel_rfl) (by kernel_rfl)) ?_
          refine ok_cons (ok_mv (Or.inl rfl) (by kernel_rfl) rfl (by kernel_rfl) (by kernel_rfl)) ?_
          refine ok_cons (ok_bin (x1 := .int .i64 ((s : Nat) : Int)) (u1 := .int .i64 ((1 : Nat) : Int)) (v := .int .i64 (((s + 1) : Nat) : Int)) (ad_i (m := s) (n := 1) (by omega)) rfl (by kernel_rfl) rfl (by kernel_rfl) (by kernel_rfl) (by kernel_rfl) (by kernel_rfl) (by kernel_rfl)) ?_
          refine ok_cons (ok_iaddr (b := 0) (off := 0) (off' := (s + 1)) (u := .int .i64 (((s + 1) : Nat) : Int)) (ix44 (i := (s + 1)) (by omega)) rfl (by kernel_rfl) rfl (by kernel_rfl) (by kernel_rfl) (by kernel_rfl) (by kernel_rfl)) ?_
          refine ok_cons (ok_load (b := 0) (off := (s + 1)) (c := ai 44 (seF (hF (uV U q)) s)) (v := .int .i64 ((((seF (hF (uV U q)) s) (s + 1)) : Nat) : Int)) (ld_at (n := 44) (F := (seF (hF (uV U q)) s)) (i := (s + 1)) (t0 := 95) (by omega)) rfl (by kernel_rfl) rfl (by kernel_rfl) (by kernel_rfl) (by kernel_rfl)) ?_
          refine ok_cons (ok_mv (Or.inl rfl) (by kernel_rfl) rfl (by kernel_rfl) (by kernel_rfl)) ?_
          refine ok_cons (ok_iaddr (b := 0) (off := 0) (off' := s) (u := .int .i64 ((s : Nat) : Int)) (ix44 (i := s) (by omega)) rfl (by kernel_rfl) rfl (by kernel_rfl) (by kernel_rfl) (by kernel_rfl) (by kernel_rfl)) ?_
          refine ok_cons (ok_load (b := 0) (off := s) (c := ai 44 (seF (hF (uV U q)) s)) (v := .int .i64 ((((seF (hF (uV U q)) s) s) : Nat) : Int)) (ld_at (n := 44) (F := (seF (hF (uV U q)) s)) (i := s) (t0 := 95) (by omega)) rfl (by kernel_rfl) rfl (by kernel_rfl) (by kernel_rfl) (by kernel_rfl)) ?_
          refine ok_cons (ok_bin (x1 := .int .i64 ((((seF (hF (uV U q)) s) s) : Nat) : Int)) (u1 := .int .i64 ((4096 : Nat) : Int)) (v := .int .i64 (((((seF (hF (uV U q)) s) s) / 4096) : Nat) : Int)) (qu_i (m := ((seF (hF (uV U q)) s) s)) (n := 4096) (by decide) (by omega)) rfl (by kernel_rfl) rfl (by kernel_rfl) (by kernel_rfl) (by kernel_rfl) (by kernel_rfl) (by kernel_rfl)) ?_
          refine ok_cons (ok_bin (x1 := .int .i64 ((((seF (hF (uV U q)) s) (s + 1)) : Nat) : Int)) (u1 := .int .i64 (((((seF (hF (uV U q)) s) s) / 4096) : Nat) : Int)) (v := .int .i64 (((((seF (hF (uV U q)) s) (s + 1)) + (((seF (hF (uV U q)) s) s) / 4096)) : Nat) : Int)) (ad_i (m := ((seF (hF (uV U q)) s) (s + 1))) (n := (((seF (hF (uV U q)) s) s) / 4096)) (by omega)) rfl (by kernel_rfl) rfl (by kernel_rfl) (by kernel_rfl) (by kernel_rfl) (by kernel_rfl) (by kernel_rfl)) ?_
          refine ok_cons (ok_iaddr (b := 0) (off := 0) (off' := (s + 1)) (u := .int .i64 (((s + 1) : Nat) : Int)) (ix44 (i := (s + 1)) (by omega)) rfl (by kernel_rfl) rfl (by kernel_rfl) (by kernel_rfl) (by kernel_rfl) (by kernel_rfl)) ?_
          refine ok_cons (ok_store (b := 0) (off := (s + 1)) (u := .int .i64 (((((seF (hF (uV U q)) s) (s + 1)) + (((seF (hF (uV U q)) s) s) / 4096)) : Nat) : Int)) (c := ai 44 (seF (hF (uV U q)) s)) (n := ai 44 (updN (seF (hF (uV U q)) s) (s + 1) (((seF (hF (uV U q)) s) (s + 1)) + (((seF (hF (uV U q)) s) s) / 4096)))) (st_at (n := 44) (F := (seF (hF (uV U q)) s)) (i := (s + 1)) (v := (((seF (hF (uV U q)) s) (s + 1)) + (((seF (hF (uV U q)) s) s) / 4096))) (t0 := 95) (by omega)) rfl (by kernel_rfl) rfl (by kernel_rfl) (by kernel_rfl) (by kernel_rfl) (by kernel_rfl) (by kernel_rfl)) ?_
          exact ok_nil
        clear h; intro β a w h
        refine sym_then ?_
        refine St.region h [.inl (.agg (ai 44 F)), .inr (0, 0), .inr (1, 0), .inl (.int .i64 ((5 : Nat) : Int)), x4, x5, x6, x7, .inl (.int .i64 ((q : Nat) : Int)), .inl (.int .i64 (((((dg (uV U q)) 21) / 8) : Nat) : Int)), .inl (.int .i64 ((s : Nat) : Int)), uu, uu, .inl (.int .i64 ((5 : Nat) : Int)), .inl (.bool false), x15, x16, x17, x18, x19, x20, x21, x22, x23, x24, x25, x26, x27, x28, x29, x30, x31, x32, x33, x34, x35, x36, x37, x38, x39, x40, x41, x42, x43, x44, x45, x46, x47, x48, x49, .inl (.int .i64 ((q : Nat) : Int)), .inl (.bool true), x52, x53, .inr (0, 21), .inl (.int .i64 ((((dg (uV U q)) 21) : Nat) : Int)), .inl (.int .i64 (((((dg (uV U q)) 21) / 8) : Nat) : Int)), .inr (0, 21), .inl (.int .i64 ((((dg (uV U q)) 21) : Nat) : Int)), .inl (.int .i64 (((((dg (uV U q)) 21) % 8) : Nat) : Int)), .inr (0, 21), .inr (0, 0), .inl (.int .i64 ((((updN (dg (uV U q)) 21 (((dg (uV U q)) 21) % 8)) 0) : Nat) : Int)), .inl (.int .i64 (((((dg (uV U q)) 21) / 8) : Nat) : Int)), .inl (.int .i64 (((19 * (((dg (uV U q)) 21) / 8)) : Nat) : Int)), .inl (.int .i64 (((((updN (dg (uV U q)) 21 (((dg (uV U q)) 21) % 8)) 0) + (19 * (((dg (uV U q)) 21) / 8))) : Nat) : Int)), .inr (0, 0), .inl (.int .i64 ((s : Nat) : Int)), .inl (.bool true), x69, x70, .inl (.int .i64 ((s : Nat) : Int)), .inl (.int .i64 (((s + 1) : Nat) : Int)), .inl (.int .i64 ((s : Nat) : Int)), .inl (.int .i64 (((s + 1) : Nat) : Int)), .inr (0, (s + 1)), .inl (.int .i64 ((((seF (hF (uV U q)) s) (s + 1)) : Nat) : Int)), .inl (.int .i64 ((s : Nat) : Int)), .inr (0, s), .inl (.int .i64 ((((seF (hF (uV U q)) s) s) : Nat) : Int)), .inl (.int .i64 (((((seF (hF (uV U q)) s) s) / 4096) : Nat) : Int)), .inl (.int .i64 (((((seF (hF (uV U q)) s) (s + 1)) + (((seF (hF (uV U q)) s) s) / 4096)) : Nat) : Int)), .inr (0, (s + 1)), .inl (.int .i64 ((s : Nat) : Int)), .inl (.int .i64 ((s : Nat) : Int)), .inr (0, s), .inl (.int .i64 ((((updN (seF (hF (uV U q)) s) (s + 1) (((seF (hF (uV U q)) s) (s + 1)) + (((seF (hF (uV U q)) s) s) / 4096))) s) : Nat) : Int)), .inl (.int .i64 (((((updN (seF (hF (uV U q)) s) (s + 1) (((seF (hF (uV U q)) s) (s + 1)) + (((seF (hF (uV U q)) s) s) / 4096))) s) % 4096) : Nat) : Int)), .inr (0, s), uu, uu, uu, uu, uu, uu, uu, uu, uu, uu, uu, uu, uu, uu, uu, uu, uu] [(ai 44 (updN (updN (seF (hF (uV U q)) s) (s + 1) (((seF (hF (uV U q)) s) (s + 1)) + (((seF (hF (uV U q)) s) s) / 4096))) s (((updN (seF (hF (uV U q)) s) (s + 1) (((seF (hF (uV U q)) s) (s + 1)) + (((seF (hF (uV U q)) s) s) / 4096))) s) % 4096)), 95), (ai 22 (fun _ => 0), 35)] [(ai 44 (updN (seF (hF (uV U q)) s) (s + 1) (((seF (hF (uV U q)) s) (s + 1)) + (((seF (hF (uV U q)) s) s) / 4096))), 95), (ai 22 (fun _ => 0), 35)] [ai 44 (updN (updN (seF (hF (uV U q)) s) (s + 1) (((seF (hF (uV U q)) s) (s + 1)) + (((seF (hF (uV U q)) s) s) / 4096))) s (((updN (seF (hF (uV U q)) s) (s + 1) (((seF (hF (uV U q)) s) (s + 1)) + (((seF (hF (uV U q)) s) s) / 4096))) s) % 4096)), #[]] [nn, nn, nn, ⟨none, none, some 0, false⟩, nn, nn, ⟨none, some 0, none, false⟩] (by kernel_rfl) (by kernel_rfl) (by kernel_rfl) (by kernel_rfl) (by kernel_rfl) (by kernel_rfl) (by kernel_rfl) (by kernel_rfl) ?_ ?_
        · refine ok_cons (ok_mv (Or.inl rfl) (by kernel_rfl) rfl (by kernel_rfl) (by kernel_rfl)) ?_
          refine ok_cons (ok_mv (Or.inl rfl) (by kernel_rfl) rfl (by kernel_rfl) (by kernel_rfl)) ?_
          refine ok_cons (ok_iaddr (b := 0) (off := 0) (off' := s) (u := .int .i64 ((s : Nat) : Int)) (ix44 (i := s) (by omega)) rfl (by kernel_rfl) rfl (by kernel_rfl) (by kernel_rfl) (by kernel_rfl) (by kernel_rfl)) ?_
          refine ok_cons (ok_load (b := 0) (off := s) (c := ai 44 (updN (seF (hF (uV U q)) s) (s + 1) (((seF (hF (uV U q)) s) (s + 1)) + (((seF (hF (uV U q)) s) s) / 4096)))) (v := .int .i64 ((((updN (seF (hF (uV U q)) s) (s + 1) (((seF (hF (uV U q)) s) (s + 1)) + (((seF (hF (uV U q)) s) s) / 4096))) s) : Nat) : Int)) (ld_at (n := 44) (F := (updN (seF (hF (uV U q)) s) (s + 1) (((seF (hF (uV U q)) s) (s + 1)) + (((seF (hF (uV U q)) s) s) / 4096)))) (i := s) (t0 := 95) (by omega)) rfl (by kernel_rfl) rfl (by kernel_rfl) (by kernel_rfl) (by kernel_rfl)) ?_
          refine ok_cons (ok_bin (x1 := .int .i64 ((((updN (seF (hF (uV U q)) s) (s + 1) (((seF (hF (uV U q)) s) (s + 1)) + (((seF (hF (uV U q)) s) s) / 4096))) s) : Nat) : Int)) (u1 := .int .i64 ((4096 : Nat) : Int)) (v := .int .i64 (((((updN (seF (hF (uV U q)) s) (s + 1) (((seF (hF (uV U q)) s) (s + 1)) + (((seF (hF (uV U q)) s) s) / 4096))) s) % 4096) : Nat) : Int)) (re_i (m := ((updN (seF (hF (uV U q)) s) (s + 1) (((seF (hF (uV U q)) s) (s + 1)) + (((seF (hF (uV U q)) s) s) / 4096))) s)) (n := 4096) (by decide)) rfl (by kernel_rfl) rfl (by kernel_rfl) (by kernel_rfl) (by kernel_rfl) (by kernel_rfl) (by kernel_rfl)) ?_
          refine ok_cons (ok_iaddr (b := 0) (off := 0) (off' := s) (u := .int .i64 ((s : Nat) : Int)) (ix44 (i := s) (by omega)) rfl (by kernel_rfl) rfl (by kernel_rfl) (by kernel_rfl) (by kernel_rfl) (by kernel_rfl)) ?_
          refine ok_cons (ok_store (b := 0) (off := s) (u := .int .i64 (((((updN (seF (hF (uV U q)) s) (s + 1) (((seF (hF (uV U q)) s) (s + 1)) + (((seF (hF (uV U q)) s) s) / 4096))) s) % 4096) : Nat) : Int)) (c := ai 44 (updN (seF (hF (uV U q)) s) (s + 1) (((seF (hF (uV U q)) s) (s + 1)) + (((seF (hF (uV U q)) s) s) / 4096)))) (n := ai 44 (updN (updN (seF (hF (uV U q)) s) (s + 1) (((seF (hF (uV U q)) s) (s + 1)) + (((seF (hF (uV U q)) s) s) / 4096))) s (((updN (seF (hF (uV U q)) s) (s + 1) (((seF (hF (uV U q)) s) (s + 1)) + (((seF (hF (uV U q)) s) s) / 4096))) s) % 4096))) (st_at (n := 44) (F := (updN (seF (hF (uV U q)) s) (s + 1) (((seF (hF (uV U q)) s) (s + 1)) + (((seF (hF (uV U q)) s) s) / 4096)))) (i := s) (v := (((updN (seF (hF (uV U q)) s) (s + 1) (((seF (hF (uV U q)) s) (s + 1)) + (((seF (hF (uV U q)) s) s) / 4096))) s) % 4096)) (t0 := 95) (by omega)) rfl (by kernel_rfl) rfl (by kernel_rfl) (by kernel_rfl) (by kernel_rfl) (by kernel_rfl) (by kernel_rfl)) ?_
          exact ok_nil
        clear h; intro β a w h
        refine blk_norm ?_
        refine sym_then ?_
        refine St.region h [.inl (.agg (ai 44 F)), .inr (0, 0), .inr (1, 0), .inl (.int .i64 ((5 : Nat) : Int)), x4, x5, x6, x7, .inl (.int .i64 ((q : Nat) : Int)), .inl (.int .i64 (((((dg (uV U q)) 21) / 8) : Nat) : Int)), .inl (.int .i64 (((s + 1) : Nat) : Int)), uu, uu, .inl (.int .i64 ((5 : Nat) : Int)), .inl (.bool false), x15, x16, x17, x18, x19, x20, x21, x22, x23, x24, x25, x26, x27, x28, x29, x30, x31, x32, x33, x34, x35, x36, x37, x38, x39, x40, x41, x42, x43, x44, x45, x46, x47, x48, x49, .inl (.int .i64 ((q : Nat) : Int)), .inl (.bool true), x52, x53, .inr (0, 21), .inl (.int .i64 ((((dg (uV U q)) 21) : Nat) : Int)), .inl (.int .i64 (((((dg (uV U q)) 21) / 8) : Nat) : Int)), .inr (0, 21), .inl (.int .i64 ((((dg (uV U q)) 21) : Nat) : Int)), .inl (.int .i64 (((((dg (uV U q)) 21) % 8) : Nat) : Int)), .inr (0, 21), .inr (0, 0), .inl (.int .i64 ((((updN (dg (uV U q)) 21 (((dg (uV U q)) 21) % 8)) 0) : Nat) : Int)), .inl (.int .i64 (((((dg (uV U q)) 21) / 8) : Nat) : Int)), .inl (.int .i64 (((19 * (((dg (uV U q)) 21) / 8)) : Nat) : Int)), .inl (.int .i64 (((((updN (dg (uV U q)) 21 (((dg (uV U q)) 21) % 8)) 0) + (19 * (((dg (uV U q)) 21) / 8))) : Nat) : Int)), .inr (0, 0), .inl (.int .i64 ((s : Nat) : Int)), .inl (.bool true), .inl (.int .i64 ((s : Nat) : Int)), .inl (.int .i64 (((s + 1) : Nat) : Int)), .inl (.int .i64 ((s : Nat) : Int)), .inl (.int .i64 (((s + 1) : Nat) : Int)), .inl (.int .i64 ((s : Nat) : Int)), .inl (.int .i64 (((s + 1) : Nat) : Int)), .inr (0, (s + 1)), .inl (.int .i64 ((((seF (hF (uV U q)) s) (s + 1)) : Nat) : Int)), .inl (.int .i64 ((s : Nat) : Int)), .inr (0, s), .inl (.int .i64 ((((seF (hF (uV U q)) s) s) : Nat) : Int)), .inl (.int .i64 (((((seF (hF (uV U q)) s) s) / 4096) : Nat) : Int)), .inl (.int .i64 (((((seF (hF (uV U q)) s) (s + 1)) + (((seF (hF (uV U q)) s) s) / 4096)) : Nat) : Int)), .inr (0, (s + 1)), .inl (.int .i64 ((s : Nat) : Int)), .inl (.int .i64 ((s : Nat) : Int)), .inr (0, s), .inl (.int .i64 ((((updN (seF (hF (uV U q)) s) (s + 1) (((seF (hF (uV U q)) s) (s + 1)) + (((seF (hF (uV U q)) s) s) / 4096))) s) : Nat) : Int)), .inl (.int .i64 (((((updN (seF (hF (uV U q)) s) (s + 1) (((seF (hF (uV U q)) s) (s + 1)) + (((seF (hF (uV U q)) s) s) / 4096))) s) % 4096) : Nat) : Int)), .inr (0, s), uu, uu, uu, uu, uu, uu, uu, uu, uu, uu, uu, uu, uu, uu, uu, uu, uu] [(ai 44 (updN (updN (seF (hF (uV U q)) s) (s + 1) (((seF (hF (uV U q)) s) (s + 1)) + (((seF (hF (uV U q)) s) s) / 4096))) s (((updN (seF (hF (uV U q)) s) (s + 1) (((seF (hF (uV U q)) s) (s + 1)) + (((seF (hF (uV U q)) s) s) / 4096))) s) % 4096)), 95), (ai 22 (fun _ => 0), 35)] [(ai 44 (updN (updN (seF (hF (uV U q)) s) (s + 1) (((seF (hF (uV U q)) s) (s + 1)) + (((seF (hF (uV U q)) s) s) / 4096))) s (((updN (seF (hF (uV U q)) s) (s + 1) (((seF (hF (uV U q)) s) (s + 1)) + (((seF (hF (uV U q)) s) s) / 4096))) s) % 4096)), 95), (ai 22 (fun _ => 0), 35)] [#[], #[]] [⟨none, none, none, true⟩, nn, nn] (by kernel_rfl) (by kernel_rfl) (by kernel_rfl) (by kernel_rfl) (by kernel_rfl) (by kernel_rfl) (by kernel_rfl) (by kernel_rfl) ?_ ?_
        · refine ok_cons (ok_mv0 rfl (by kernel_rfl) rfl (by kernel_rfl) (by kernel_rfl)) ?_
          refine ok_cons (ok_bin (x1 := .int .i64 ((s : Nat) : Int)) (u1 := .int .i64 ((1 : Nat) : Int)) (v := .int .i64 (((s + 1) : Nat) : Int)) (ad_i (m := s) (n := 1) (by omega)) rfl (by kernel_rfl) rfl (by kernel_rfl) (by kernel_rfl) (by kernel_rfl) (by kernel_rfl) (by kernel_rfl)) ?_
          refine ok_cons (ok_mv (Or.inr rfl) (by kernel_rfl) rfl (by kernel_rfl) (by kernel_rfl)) ?_
          exact ok_nil
        clear h; intro β a w h
        replace h := St.setm h 0 (c := ai 44 (updN (updN (seF (hF (uV U q)) s) (s + 1) (((seF (hF (uV U q)) s) (s + 1)) + (((seF (hF (uV U q)) s) s) / 4096))) s (((updN (seF (hF (uV U q)) s) (s + 1) (((seF (hF (uV U q)) s) (s + 1)) + (((seF (hF (uV U q)) s) s) / 4096))) s) % 4096))) (c' := ai 44 (seF (hF (uV U q)) (s + 1))) (t := 95) (m' := [(ai 44 (seF (hF (uV U q)) (s + 1)), 95), (ai 22 (fun _ => 0), 35)]) seF_next (by kernel_rfl) (by kernel_rfl)
        exact ⟨hlts, _, _, _, _, _, _, _, _, _, _, _, _, _, _, _, _, _, _, _, _, _, _, _, h⟩
      · obtain rfl : s = 21 := by omega
        refine sym_seq ?_
        refine sym_seq ?_
        refine St.region h [.inl (.agg (ai 44 F)), .inr (0, 0), .inr (1, 0), .inl (.int .i64 ((5 : Nat) : Int)), x4, x5, x6, x7, .inl (.int .i64 ((q : Nat) : Int)), .inl (.int .i64 (((((dg (uV U q)) 21) / 8) : Nat) : Int)), .inl (.int .i64 ((21 : Nat) : Int)), uu, uu, .inl (.int .i64 ((5 : Nat) : Int)), .inl (.bool false), x15, x16, x17, x18, x19, x20, x21, x22, x23, x24, x25, x26, x27, x28, x29, x30, x31, x32, x33, x34, x35, x36, x37, x38, x39, x40, x41, x42, x43, x44, x45, x46, x47, x48, x49, .inl (.int .i64 ((q : Nat) : Int)), .inl (.bool true), x52, x53, .inr (0, 21), .inl (.int .i64 ((((dg (uV U q)) 21) : Nat) : Int)), .inl (.int .i64 (((((dg (uV U q)) 21) / 8) : Nat) : Int)), .inr (0, 21), .inl (.int .i64 ((((dg (uV U q)) 21) : Nat) : Int)), .inl (.int .i64 (((((dg (uV U q)) 21) % 8) : Nat) : Int)), .inr (0, 21), .inr (0, 0), .inl (.int .i64 ((((updN (dg (uV U q)) 21 (((dg (uV U q)) 21) % 8)) 0) : Nat) : Int)), .inl (.int .i64 (((((dg (uV U q)) 21) / 8) : Nat) : Int)), .inl (.int .i64 (((19 * (((dg (uV U q)) 21) / 8)) : Nat) : Int)), .inl (.int .i64 (((((updN (dg (uV U q)) 21 (((dg (uV U q)) 21) % 8)) 0) + (19 * (((dg (uV U q)) 21) / 8))) : Nat) : Int)), .inr (0, 0), .inl (.int .i64 ((21 : Nat) : Int)), .inl (.bool false), x69, x70, x71, x72, x73, x74, x75, x76, x77, x78, x79, x80, x81, x82, x83, x84, x85, x86, x87, x88, uu, uu, uu, uu, uu, uu, uu, uu, uu, uu, uu, uu, uu, uu, uu, uu, uu] [(ai 44 (seF (hF (uV U q)) 21), 95), (ai 22 (fun _ => 0), 35)] [(ai 44 (seF (hF (uV U q)) 21), 95), (ai 22 (fun _ => 0), 35)] [#[], #[]] [nn, nn] (by kernel_rfl) (by kernel_rfl) (by kernel_rfl) (by kernel_rfl) (by kernel_rfl) (by kernel_rfl) (by kernel_rfl) (by kernel_rfl) ?_ ?_
        · refine ok_cons (ok_mv (Or.inl rfl) (by kernel_rfl) rfl (by kernel_rfl) (by kernel_rfl)) ?_
          refine ok_cons (ok_bin (x1 := .int .i64 ((21 : Nat) : Int)) (u1 := .int .i64 ((21 : Nat) : Int)) (v := .bool false) (lt_i (m := ((21 : Nat) : Int)) (n := ((21 : Nat) : Int)) (decide_eq_false (by omega))) rfl (by kernel_rfl) rfl (by kernel_rfl) (by kernel_rfl) (by kernel_rfl) (by kernel_rfl) (by kernel_rfl)) ?_
          exact ok_nil
        clear h; intro β a w h
        refine sym_then ?_
        refine sym_cond_f h (by kernel_rfl) (by kernel_rfl) ?_
        refine wp_exit ?_
        refine then_exit ?_
        refine then_exit ?_
        refine blk_exit ?_
        refine blk_norm ?_
        refine sym_then ?_
        refine St.region h [.inl (.agg (ai 44 F)), .inr (0, 0), .inr (1, 0), .inl (.int .i64 ((5 : Nat) : Int)), x4, x5, x6, x7, .inl (.int .i64 (((q + 1) : Nat) : Int)), .inl (.int .i64 (((((dg (uV U q)) 21) / 8) : Nat) : Int)), .inl (.int .i64 ((21 : Nat) : Int)), uu, uu, .inl (.int .i64 ((5 : Nat) : Int)), .inl (.bool false), x15, x16, x17, x18, x19, x20, x21, x22, x23, x24, x25, x26, x27, x28, x29, x30, x31, x32, x33, x34, x35, x36, x37, x38, x39, x40, x41, x42, x43, x44, x45, x46, x47, x48, x49, .inl (.int .i64 ((q : Nat) : Int)), .inl (.bool true), .inl (.int .i64 ((q : Nat) : Int)), .inl (.int .i64 (((q + 1) : Nat) : Int)), .inr (0, 21), .inl (.int .i64 ((((dg (uV U q)) 21) : Nat) : Int)), .inl (.int .i64 (((((dg (uV U q)) 21) / 8) : Nat) : Int)), .inr (0, 21), .inl (.int .i64 ((((dg (uV U q)) 21) : Nat) : Int)), .inl (.int .i64 (((((dg (uV U q)) 21) % 8) : Nat) : Int)), .inr (0, 21), .inr (0, 0), .inl (.int .i64 ((((updN (dg (uV U q)) 21 (((dg (uV U q)) 21) % 8)) 0) : Nat) : Int)), .inl (.int .i64 (((((dg (uV U q)) 21) / 8) : Nat) : Int)), .inl (.int .i64 (((19 * (((dg (uV U q)) 21) / 8)) : Nat) : Int)), .inl (.int .i64 (((((updN (dg (uV U q)) 21 (((dg (uV U q)) 21) % 8)) 0) + (19 * (((dg (uV U q)) 21) / 8))) : Nat) : Int)), .inr (0, 0), .inl (.int .i64 ((21 : Nat) : Int)), .inl (.bool false), x69, x70, x71, x72, x73, x74, x75, x76, x77, x78, x79, x80, x81, x82, x83, x84, x85, x86, x87, x88, uu, uu, uu, uu, uu, uu, uu, uu, uu, uu, uu, uu, uu, uu, uu, uu, uu] [(ai 44 (seF (hF (uV U q)) 21), 95), (ai 22 (fun _ => 0), 35)] [(ai 44 (seF (hF (uV U q)) 21), 95), (ai 22 (fun _ => 0), 35)] [#[], #[]] [⟨none, none, none, true⟩, nn, nn] (by kernel_rfl) (by kernel_rfl) (by kernel_rfl) (by kernel_rfl) (by kernel_rfl) (by kernel_rfl) (by kernel_rfl) (by kernel_rfl) ?_ ?_
        · refine ok_cons (ok_mv0 rfl (by kernel_rfl) rfl (by kernel_rfl) (by kernel_rfl)) ?_
          refine ok_cons (ok_bin (x1 := .int .i64 ((q : Nat) : Int)) (u1 := .int .i64 ((1 : Nat) : Int)) (v := .int .i64 (((q + 1) : Nat) : Int)) (ad_i (m := q) (n := 1) (by omega)) rfl (by kernel_rfl) rfl (by kernel_rfl) (by kernel_rfl) (by kernel_rfl) (by kernel_rfl) (by kernel_rfl)) ?_
          refine ok_cons (ok_mv (Or.inr rfl) (by kernel_rfl) rfl (by kernel_rfl) (by kernel_rfl)) ?_
          exact ok_nil
        clear h; intro β a w h
        replace h := St.setm h 0 (c := ai 44 (seF (hF (uV U q)) 21)) (c' := ai 44 (dg (uV U (q + 1)))) (t := 95) (m' := [(ai 44 (dg (uV U (q + 1))), 95), (ai 22 (fun _ => 0), 35)]) (seF_end (uV_lt hU q)) (by kernel_rfl) (by kernel_rfl)
        exact ⟨hltq, _, _, _, _, _, _, _, _, _, _, _, _, _, _, _, _, _, _, _, _, _, _, _, _, _, _, _, _, _, _, _, _, _, _, _, _, _, _, _, _, _, _, h⟩
    · obtain rfl : q = 2 := by omega
      refine sym_seq ?_
      refine sym_seq ?_
      refine St.region h [.inl (.agg (ai 44 F)), .inr (0, 0), .inr (1, 0), .inl (.int .i64 ((5 : Nat) : Int)), x4, x5, x6, x7, .inl (.int .i64 ((2 : Nat) : Int)), x9, x10, uu, uu, .inl (.int .i64 ((5 : Nat) : Int)), .inl (.bool false), x15, x16, x17, x18, x19, x20, x21, x22, x23, x24, x25, x26, x27, x28, x29, x30, x31, x32, x33, x34, x35, x36, x37, x38, x39, x40, x41, x42, x43, x44, x45, x46, x47, x48, x49, .inl (.int .i64 ((2 : Nat) : Int)), .inl (.bool false), x52, x53, x54, x55, x56, x57, x58, x59, x60, x61, x62, x63, x64, x65, x66, x67, x68, x69, x70, x71, x72, x73, x74, x75, x76, x77, x78, x79, x80, x81, x82, x83, x84, x85, x86, x87, x88, uu, uu, uu, uu, uu, uu, uu, uu, uu, uu, uu, uu, uu, uu, uu, uu, uu] [(ai 44 (dg (uV U 2)), 95), (ai 22 (fun _ => 0), 35)] [(ai 44 (dg (uV U 2)), 95), (ai 22 (fun _ => 0), 35)] [#[], #[]] [nn, nn] (by kernel_rfl) (by kernel_rfl) (by kernel_rfl) (by kernel_rfl) (by kernel_rfl) (by kernel_rfl) (by kernel_rfl) (by kernel_rfl) ?_ ?_
      · refine ok_cons (ok_mv (Or.inl rfl) (by kernel_rfl) rfl (by kernel_rfl) (by kernel_rfl)) ?_
        refine ok_cons (ok_bin (x1 := .int .i64 ((2 : Nat) : Int)) (u1 := .int .i64 ((2 : Nat) : Int)) (v := .bool false) (lt_i (m := ((2 : Nat) : Int)) (n := ((2 : Nat) : Int)) (decide_eq_false (by omega))) rfl (by kernel_rfl) rfl (by kernel_rfl) (by kernel_rfl) (by kernel_rfl) (by kernel_rfl) (by kernel_rfl)) ?_
        exact ok_nil
      clear h; intro β a w h
      refine sym_then ?_
      refine sym_cond_f h (by kernel_rfl) (by kernel_rfl) ?_
      refine wp_exit ?_
      refine then_exit ?_
      refine then_exit ?_
      refine blk_exit ?_
      refine sym_then ?_
      refine sym_seq ?_
      refine St.region h [.inl (.agg (ai 44 F)), .inr (0, 0), .inr (1, 0), .inl (.int .i64 ((5 : Nat) : Int)), x4, x5, x6, x7, .inl (.int .i64 ((2 : Nat) : Int)), x9, x10, .inr (2, 0), uu, .inl (.int .i64 ((5 : Nat) : Int)), .inl (.bool false), x15, x16, x17, x18, x19, x20, x21, x22, x23, x24, x25, x26, x27, x28, x29, x30, x31, x32, x33, x34, x35, x36, x37, x38, x39, x40, x41, x42, x43, x44, x45, x46, x47, x48, x49, .inl (.int .i64 ((2 : Nat) : Int)), .inl (.bool false), x52, x53, x54, x55, x56, x57, x58, x59, x60, x61, x62, x63, x64, x65, x66, x67, x68, x69, x70, x71, x72, x73, x74, x75, x76, x77, x78, x79, x80, x81, x82, x83, x84, x85, x86, x87, x88, uu, uu, uu, uu, uu, uu, uu, uu, uu, uu, uu, uu, uu, uu, uu, uu, uu] [(ai 44 (dg (uV U 2)), 95), (ai 22 (fun _ => 0), 35), (ai 22 (fun _ => 0), 35)] [(ai 44 (dg (uV U 2)), 95), (ai 22 (fun _ => 0), 35), (ai 22 (fun _ => 0), 35)] [#[], #[], #[]] [⟨some 2, none, none, false⟩] (by kernel_rfl) (by kernel_rfl) (by kernel_rfl) (by kernel_rfl) (by kernel_rfl) (by kernel_rfl) (by kernel_rfl) (by kernel_rfl) ?_ ?_
      · refine ok_cons (ok_alloc (b := 2) al22 rfl (by kernel_rfl) rfl (by kernel_rfl) (by kernel_rfl)) ?_
        exact ok_nil
      clear h; intro β a w h
      refine sym_then ?_
      refine sym_seq ?_
      refine sym_seq ?_
      refine St.region h [.inl (.agg (ai 44 F)), .inr (0, 0), .inr (1, 0), .inl (.int .i64 ((5 : Nat) : Int)), x4, x5, x6, x7, .inl (.int .i64 ((2 : Nat) : Int)), x9, x10, .inr (2, 0), .inl (.int .i64 ((0 : Nat) : Int)), .inl (.int .i64 ((5 : Nat) : Int)), .inl (.bool false), x15, x16, x17, x18, x19, x20, x21, x22, x23, x24, x25, x26, x27, x28, x29, x30, x31, x32, x33, x34, x35, x36, x37, x38, x39, x40, x41, x42, x43, x44, x45, x46, x47, x48, x49, .inl (.int .i64 ((2 : Nat) : Int)), .inl (.bool false), x52, x53, x54, x55, x56, x57, x58, x59, x60, x61, x62, x63, x64, x65, x66, x67, x68, x69, x70, x71, x72, x73, x74, x75, x76, x77, x78, x79, x80, x81, x82, x83, x84, x85, x86, x87, x88, uu, uu, uu, uu, uu, uu, uu, uu, uu, uu, uu, uu, uu, uu, uu, uu, uu] [(ai 44 (dg (uV U 2)), 95), (ai 22 (fun _ => 0), 35), (ai 22 (fun _ => 0), 35)] [(ai 44 (dg (uV U 2)), 95), (ai 22 (fun _ => 0), 35), (ai 22 (fun _ => 0), 35)] [#[], #[], #[]] [nn] (by kernel_rfl) (by kernel_rfl) (by kernel_rfl) (by kernel_rfl) (by kernel_rfl) (by kernel_rfl) (by kernel_rfl) (by kernel_rfl) ?_ ?_
      · refine ok_cons (ok_mv (Or.inr rfl) (by kernel_rfl) rfl (by kernel_rfl) (by kernel_rfl)) ?_
        exact ok_nil
      clear h; intro β a w h
      refine sym_then ?_
      refine blk_in ?_
      replace h := St.setm h 2 (c := ai 22 (fun _ => 0)) (c' := ai 22 (cpF V 0)) (t := 35) (m' := [(ai 44 (dg (uV U 2)), 95), (ai 22 (fun _ => 0), 35), (ai 22 (cpF V 0), 35)]) (cpF_zero _) (by kernel_rfl) (by kernel_rfl)
      replace h := St.setm h 0 (c := ai 44 (dg (uV U 2))) (c' := ai 44 (dg V)) (t := 95) (m' := [(ai 44 (dg V), 95), (ai 22 (fun _ => 0), 35), (ai 22 (cpF V 0), 35)]) (by rw [HV.out]) (by kernel_rfl) (by kernel_rfl)
      refine loop_up 22 (fun p a w => ∃ (x89 x90 x91 x92 x93 x94 x95 x96 x97 : SV) (β : Nat → Nat), St W0 [.inl (.agg (ai 44 F)), .inr (0, 0), .inr (1, 0), .inl (.int .i64 ((5 : Nat) : Int)), x4, x5, x6, x7, .inl (.int .i64 ((2 : Nat) : Int)), x9, x10, .inr (2, 0), .inl (.int .i64 ((p : Nat) : Int)), .inl (.int .i64 ((5 : Nat) : Int)), .inl (.bool false), x15, x16, x17, x18, x19, x20, x21, x22, x23, x24, x25, x26, x27, x28, x29, x30, x31, x32, x33, x34, x35, x36, x37, x38, x39, x40, x41, x42, x43, x44, x45, x46, x47, x48, x49, .inl (.int .i64 ((2 : Nat) : Int)), .inl (.bool false), x52, x53, x54, x55, x56, x57, x58, x59, x60, x61, x62, x63, x64, x65, x66, x67, x68, x69, x70, x71, x72, x73, x74, x75, x76, x77, x78, x79, x80, x81, x82, x83, x84, x85, x86, x87, x88, x89, x90, x91, x92, x93, x94, x95, x96, x97, uu, uu, uu, uu, uu, uu, uu, uu] [(ai 44 (dg V), 95), (ai 22 (fun _ => 0), 35), (ai 22 (cpF V p), 35)] β a w) ⟨_, _, _, _, _, _, _, _, _, β, h⟩ ?_
      clear h; rintro p a w hkp ⟨x89, x90, x91, x92, x93, x94, x95, x96, x97, β, h⟩
      rcases Nat.lt_or_ge p 22 with hltp | hgep
      · refine sym_seq ?_
        refine sym_seq ?_
        refine St.region h [.inl (.agg (ai 44 F)), .inr (0, 0), .inr (1, 0), .inl (.int .i64 ((5 : Nat) : Int)), x4, x5, x6, x7, .inl (.int .i64 ((2 : Nat) : Int)), x9, x10, .inr (2, 0), .inl (.int .i64 ((p : Nat) : Int)), .inl (.int .i64 ((5 : Nat) : Int)), .inl (.bool false), x15, x16, x17, x18, x19, x20, x21, x22, x23, x24, x25, x26, x27, x28, x29, x30, x31, x32, x33, x34, x35, x36, x37, x38, x39, x40, x41, x42, x43, x44, x45, x46, x47, x48, x49, .inl (.int .i64 ((2 : Nat) : Int)), .inl (.bool false), x52, x53, x54, x55, x56, x57, x58, x59, x60, x61, x62, x63, x64, x65, x66, x67, x68, x69, x70, x71, x72, x73, x74, x75, x76, x77, x78, x79, x80, x81, x82, x83, x84, x85, x86, x87, x88, .inl (.int .i64 ((p : Nat) : Int)), .inl (.bool true), x91, x92, x93, x94, x95, x96, x97, uu, uu, uu, uu, uu, uu, uu, uu] [(ai 44 (dg V), 95), (ai 22 (fun _ => 0), 35), (ai 22 (cpF V p), 35)] [(ai 44 (dg V), 95), (ai 22 (fun _ => 0), 35), (ai 22 (cpF V p), 35)] [#[], #[], #[]] [nn, nn] (by kernel_rfl) (by kernel_rfl) (by kernel_rfl) (by kernel_rfl) (by kernel_rfl) (by kernel_rfl) (by kernel_rfl) (by kernel_rfl) ?_ ?_
        · refine ok_cons (ok_mv (Or.inl rfl) (by kernel_rfl) rfl (by kernel_rfl) (by kernel_rfl)) ?_
          refine ok_cons (ok_bin (x1 := .int .i64 ((p : Nat) : Int)) (u1 := .int .i64 ((22 : Nat) : Int)) (v := .bool true) (lt_i (m := ((p : Nat) : Int)) (n := ((22 : Nat) : Int)) (decide_eq_true (by omega))) rfl (by kernel_rfl) rfl (by kernel_rfl) (by kernel_rfl) (by kernel_rfl) (by kernel_rfl) (by kernel_rfl)) ?_
          exact ok_nil
        clear h; intro β a w h
        refine sym_then ?_
        refine sym_cond_t h (by kernel_rfl) (by kernel_rfl) ?_
        refine wp_skip ?_
        refine sym_then ?_
        refine sym_seq ?_
        refine blk_in ?_
        refine St.region h [.inl (.agg (ai 44 F)), .inr (0, 0), .inr (1, 0), .inl (.int .i64 ((5 : Nat) : Int)), x4, x5, x6, x7, .inl (.int .i64 ((2 : Nat) : Int)), x9, x10, .inr (2, 0), .inl (.int .i64 ((p : Nat) : Int)), .inl (.int .i64 ((5 : Nat) : Int)), .inl (.bool false), x15, x16, x17, x18, x19, x20, x21, x22, x23, x24, x25, x26, x27, x28, x29, x30, x31, x32, x33, x34, x35, x36, x37, x38, x39, x40, x41, x42, x43, x44, x45, x46, x47, x48, x49, .inl (.int .i64 ((2 : Nat) : Int)), .inl (.bool false), x52, x53, x54, x55, x56, x57, x58, x59, x60, x61, x62, x63, x64, x65, x66, x67, x68, x69, x70, x71, x72, x73, x74, x75, x76, x77, x78, x79, x80, x81, x82, x83, x84, x85, x86, x87, x88, .inl (.int .i64 ((p : Nat) : Int)), .inl (.bool true), x91, x92, .inl (.int .i64 ((p : Nat) : Int)), .inl (.int .i64 ((p : Nat) : Int)), .inr (0, p), .inl (.int .i64 ((((dg V) p) : Nat) : Int)), .inr (2, p), uu, uu, uu, uu, uu, uu, uu, uu] [(ai 44 (dg V), 95), (ai 22 (fun _ => 0), 35), (ai 22 (updN (cpF V p) p ((dg V) p)), 35)] [(ai 44 (dg V), 95), (ai 22 (fun _ => 0), 35), (ai 22 (cpF V p), 35)] [#[], #[], ai 22 (updN (cpF V p) p ((dg V) p))] [nn, nn, nn, ⟨none, none, some 0, false⟩, nn, ⟨none, some 2, none, false⟩] (by kernel_rfl) (by kernel_rfl) (by kernel_rfl) (by kernel_rfl) (by kernel_rfl) (by kernel_rfl) (by kernel_rfl) (by kernel_rfl) ?_ ?_
        · refine ok_cons (ok_mv (Or.inl rfl) (by kernel_rfl) rfl (by kernel_rfl) (by kernel_rfl)) ?_
          refine ok_cons (ok_mv (Or.inl rfl) (by kernel_rfl) rfl (by kernel_rfl) (by kernel_rfl)) ?_
          refine ok_cons (ok_iaddr (b := 0) (off := 0) (off' := p) (u := .int .i64 ((p : Nat) : Int)) (ix44 (i := p) (by omega)) rfl (by kernel_rfl) rfl (by kernel_rfl) (by kernel_rfl) (by kernel_rfl) (by kernel_rfl)) ?_
          refine ok_cons (ok_load (b := 0) (off := p) (c := ai 44 (dg V)) (v := .int .i64 ((((dg V) p) : Nat) : Int)) (ld_at (n := 44) (F := (dg V)) (i := p) (t0 := 95) (by omega)) rfl (by kernel_rfl) rfl (by kernel_rfl) (by kernel_rfl) (by kernel_rfl)) ?_
          refine ok_cons (ok_iaddr (b := 2) (off := 0) (off' := p) (u := .int .i64 ((p : Nat) : Int)) (ix22 (i := p) (by omega)) rfl (by kernel_rfl) rfl (by kernel_rfl) (by kernel_rfl) (by kernel_rfl) (by kernel_rfl)) ?_
          refine ok_cons (ok_store (b := 2) (off := p) (u := .int .i64 ((((dg V) p) : Nat) : Int)) (c := ai 22 (cpF V p)) (n := ai 22 (updN (cpF V p) p ((dg V) p))) (st_at (n := 22) (F := (cpF V p)) (i := p) (v := ((dg V) p)) (t0 := 35) (by omega)) rfl (by kernel_rfl) rfl (by kernel_rfl) (by kernel_rfl) (by kernel_rfl) (by kernel_rfl) (by kernel_rfl)) ?_
          exact ok_nil
        clear h; intro β a w h
        refine blk_norm ?_
        refine sym_then ?_
        refine St.region h [.inl (.agg (ai 44 F)), .inr (0, 0), .inr (1, 0), .inl (.int .i64 ((5 : Nat) : Int)), x4, x5, x6, x7, .inl (.int .i64 ((2 : Nat) : Int)), x9, x10, .inr (2, 0), .inl (.int .i64 (((p + 1) : Nat) : Int)), .inl (.int .i64 ((5 : Nat) : Int)), .inl (.bool false), x15, x16, x17, x18, x19, x20, x21, x22, x23, x24, x25, x26, x27, x28, x29, x30, x31, x32, x33, x34, x35, x36, x37, x38, x39, x40, x41, x42, x43, x44, x45, x46, x47, x48, x49, .inl (.int .i64 ((2 : Nat) : Int)), .inl (.bool false), x52, x53, x54, x55, x56, x57, x58, x59, x60, x61, x62, x63, x64, x65, x66, x67, x68, x69, x70, x71, x72, x73, x74, x75, x76, x77, x78, x79, x80, x81, x82, x83, x84, x85, x86, x87, x88, .inl (.int .i64 ((p : Nat) : Int)), .inl (.bool true), .inl (.int .i64 ((p : Nat) : Int)), .inl (.int .i64 (((p + 1) : Nat) : Int)), .inl (.int .i64 ((p : Nat) : Int)), .inl (.int .i64 ((p : Nat) : Int)), .inr (0, p), .inl (.int .i64 ((((dg V) p) : Nat) : Int)), .inr (2, p), uu, uu, uu, uu, uu, uu, uu, uu] [(ai 44 (dg V), 95), (ai 22 (fun _ => 0), 35), (ai 22 (updN (cpF V p) p ((dg V) p)), 35)] [(ai 44 (dg V), 95), (ai 22 (fun _ => 0), 35), (ai 22 (updN (cpF V p) p ((dg V) p)), 35)] [#[], #[], #[]] [⟨none, none, none, true⟩, nn, nn] (by kernel_rfl) (by kernel_rfl) (by kernel_rfl) (by kernel_rfl) (by kernel_rfl) (by kernel_rfl) (by kernel_rfl) (by kernel_rfl) ?_ ?_
        · refine ok_cons (ok_mv0 rfl (by kernel_rfl) rfl (by kernel_rfl) (by kernel_rfl)) ?_
          refine ok_cons (ok_bin (x1 := .int .i64 ((p : Nat) : Int)) (u1 := .int .i64 ((1 : Nat) : Int)) (v := .int .i64 (((p + 1) : Nat) : Int)) (ad_i (m := p) (n := 1) (by omega)) rfl (by kernel_rfl) rfl (by kernel_rfl) (by kernel_rfl) (by kernel_rfl) (by kernel_rfl) (by kernel_rfl)) ?_
          refine ok_cons (ok_mv (Or.inr rfl) (by kernel_rfl) rfl (by kernel_rfl) (by kernel_rfl)) ?_
          exact ok_nil
        clear h; intro β a w h
        replace h := St.setm h 2 (c := ai 22 (updN (cpF V p) p ((dg V) p))) (c' := ai 22 (cpF V (p + 1))) (t := 35) (m' := [(ai 44 (dg V), 95), (ai 22 (fun _ => 0), 35), (ai 22 (cpF V (p + 1)), 35)]) (cpF_next _ _) (by kernel_rfl) (by kernel_rfl)
        exact ⟨hltp, _, _, _, _, _, _, _, _, _, _, h⟩
      · obtain rfl : p = 22 := by omega
        refine sym_seq ?_
        refine sym_seq ?_
        refine St.region h [.inl (.agg (ai 44 F)), .inr (0, 0), .inr (1, 0), .inl (.int .i64 ((5 : Nat) : Int)), x4, x5, x6, x7, .inl (.int .i64 ((2 : Nat) : Int)), x9, x10, .inr (2, 0), .inl (.int .i64 ((22 : Nat) : Int)), .inl (.int .i64 ((5 : Nat) : Int)), .inl (.bool false), x15, x16, x17, x18, x19, x20, x21, x22, x23, x24, x25, x26, x27, x28, x29, x30, x31, x32, x33, x34, x35, x36, x37, x38, x39, x40, x41, x42, x43, x44, x45, x46, x47, x48, x49, .inl (.int .i64 ((2 : Nat) : Int)), .inl (.bool false), x52, x53, x54, x55, x56, x57, x58, x59, x60, x61, x62, x63, x64, x65, x66, x67, x68, x69, x70, x71, x72, x73, x74, x75, x76, x77, x78, x79, x80, x81, x82, x83, x84, x85, x86, x87, x88, .inl (.int .i64 ((22 : Nat) : Int)), .inl (.bool false), x91, x92, x93, x94, x95, x96, x97, uu, uu, uu, uu, uu, uu, uu, uu] [(ai 44 (dg V), 95), (ai 22 (fun _ => 0), 35), (ai 22 (cpF V 22), 35)] [(ai 44 (dg V), 95), (ai 22 (fun _ => 0), 35), (ai 22 (cpF V 22), 35)] [#[], #[], #[]] [nn, nn] (by kernel_rfl) (by kernel_rfl) (by kernel_rfl) (by kernel_rfl) (by kernel_rfl) (by kernel_rfl) (by kernel_rfl) (by kernel_rfl) ?_ ?_
        · refine ok_cons (ok_mv (Or.inl rfl) (by kernel_rfl) rfl (by kernel_rfl) (by kernel_rfl)) ?_
          refine ok_cons (ok_bin (x1 := .int .i64 ((22 : Nat) : Int)) (u1 := .int .i64 ((22 : Nat) : Int)) (v := .bool false) (lt_i (m := ((22 : Nat) : Int)) (n := ((22 : Nat) : Int)) (decide_eq_false (by omega))) rfl (by kernel_rfl) rfl (by kernel_rfl) (by kernel_rfl) (by kernel_rfl) (by kernel_rfl) (by kernel_rfl)) ?_
          exact ok_nil
        clear h; intro β a w h
        refine sym_then ?_
        refine sym_cond_f h (by kernel_rfl) (by kernel_rfl) ?_
        refine wp_exit ?_
        refine then_exit ?_
        refine then_exit ?_
        refine blk_exit ?_
        refine sym_then ?_
        refine sym_seq ?_
        refine blk_in ?_
        replace h := St.setm h 2 (c := ai 22 (cpF V 22)) (c' := ai 22 (dg (V - 0 * pp))) (t := 35) (m' := [(ai 44 (dg V), 95), (ai 22 (fun _ => 0), 35), (ai 22 (dg (V - 0 * pp)), 35)]) (cpF_end _) (by kernel_rfl) (by kernel_rfl)
        refine loop_up (V / pp) (fun e a w => ∃ (x98 x99 x100 x101 x102 x103 x104 : SV) (β : Nat → Nat), St W0 [.inl (.agg (ai 44 F)), .inr (0, 0), .inr (1, 0), .inl (.int .i64 ((5 : Nat) : Int)), x4, x5, x6, x7, .inl (.int .i64 ((2 : Nat) : Int)), x9, x10, .inr (2, 0), .inl (.int .i64 ((22 : Nat) : Int)), .inl (.int .i64 ((5 : Nat) : Int)), .inl (.bool false), x15, x16, x17, x18, x19, x20, x21, x22, x23, x24, x25, x26, x27, x28, x29, x30, x31, x32, x33, x34, x35, x36, x37, x38, x39, x40, x41, x42, x43, x44, x45, x46, x47, x48, x49, .inl (.int .i64 ((2 : Nat) : Int)), .inl (.bool false), x52, x53, x54, x55, x56, x57, x58, x59, x60, x61, x62, x63, x64, x65, x66, x67, x68, x69, x70, x71, x72, x73, x74, x75, x76, x77, x78, x79, x80, x81, x82, x83, x84, x85, x86, x87, x88, .inl (.int .i64 ((22 : Nat) : Int)), .inl (.bool false), x91, x92, x93, x94, x95, x96, x97, x98, x99, x100, x101, x102, x103, x104, uu] [(ai 44 (dg V), 95), (ai 22 (fun _ => 0), 35), (ai 22 (dg (V - e * pp)), 35)] β a w) ⟨_, _, _, _, _, _, _, β, h⟩ ?_
        clear h; rintro e a w hke ⟨x98, x99, x100, x101, x102, x103, x104, β, h⟩
        rcases Nat.lt_or_ge e (V / pp) with hlte | hgee
        · refine sym_seq ?_
          refine sym_seq ?_
          refine St.region h [.inl (.agg (ai 44 F)), .inr (0, 0), .inr (1, 0), .inl (.int .i64 ((5 : Nat) : Int)), x4, x5, x6, x7, .inl (.int .i64 ((2 : Nat) : Int)), x9, x10, .inr (2, 0), .inl (.int .i64 ((22 : Nat) : Int)), .inl (.int .i64 ((5 : Nat) : Int)), .inl (.bool false), x15, x16, x17, x18, x19, x20, x21, x22, x23, x24, x25, x26, x27, x28, x29, x30, x31, x32, x33, x34, x35, x36, x37, x38, x39, x40, x41, x42, x43, x44, x45, x46, x47, x48, x49, .inl (.int .i64 ((2 : Nat) : Int)), .inl (.bool false), x52, x53, x54, x55, x56, x57, x58, x59, x60, x61, x62, x63, x64, x65, x66, x67, x68, x69, x70, x71, x72, x73, x74, x75, x76, x77, x78, x79, x80, x81, x82, x83, x84, x85, x86, x87, x88, .inl (.int .i64 ((22 : Nat) : Int)), .inl (.bool false), x91, x92, x93, x94, x95, x96, x97, .inl (.agg (ai 22 (dg (V - e * pp)))), .inl (.agg (ai 22 (dg pp))), .inl (.bool false), .inl (.bool true), x102, x103, x104, uu] [(ai 44 (dg V), 95), (ai 22 (fun _ => 0), 35), (ai 22 (dg (V - e * pp)), 35)] [(ai 44 (dg V), 95), (ai 22 (fun _ => 0), 35), (ai 22 (dg (V - e * pp)), 35)] [#[], #[], #[]] [⟨none, none, some 2, false⟩, nn, nn, nn] (by kernel_rfl) (by kernel_rfl) (by kernel_rfl) (by kernel_rfl) (by kernel_rfl) (by kernel_rfl) (by kernel_rfl) (by kernel_rfl) ?_ ?_
          · refine ok_cons (ok_load (b := 2) (off := 0) (c := ai 22 (dg (V - e * pp))) (v := .agg (ai 22 (dg (V - e * pp)))) (ld22 (F := (dg (V - e * pp))) 35) rfl (by kernel_rfl) rfl (by kernel_rfl) (by kernel_rfl) (by kernel_rfl)) ?_
            refine ok_cons (ok_call (vs := #[]) (R := .agg (ai 22 (dg pp))) prime_r rfl (by kernel_rfl) rfl (by kernel_rfl) (by kernel_rfl) (by kernel_rfl) (fun w => by kernel_rfl)) ?_
            refine ok_cons (ok_call (vs := #[.agg (ai 22 (dg (V - e * pp))), .agg (ai 22 (dg pp))]) (R := .bool false) (fun w => below_b (sub_big hV) pp_big (decide_eq_false (Nat.not_lt.2 (q_lt hlte))) w) rfl (by kernel_rfl) rfl (by kernel_rfl) (by kernel_rfl) (by kernel_rfl) (fun w => by kernel_rfl)) ?_
            refine ok_cons (ok_not (b := false) rfl (by kernel_rfl) rfl (by kernel_rfl) (by kernel_rfl) (by kernel_rfl)) ?_
            exact ok_nil
          clear h; intro β a w h
          refine sym_then ?_
          refine sym_cond_t h (by kernel_rfl) (by kernel_rfl) ?_
          refine wp_skip ?_
          refine sym_then ?_
          refine blk_in ?_
          refine St.region h [.inl (.agg (ai 44 F)), .inr (0, 0), .inr (1, 0), .inl (.int .i64 ((5 : Nat) : Int)), x4, x5, x6, x7, .inl (.int .i64 ((2 : Nat) : Int)), x9, x10, .inr (2, 0), .inl (.int .i64 ((22 : Nat) : Int)), .inl (.int .i64 ((5 : Nat) : Int)), .inl (.bool false), x15, x16, x17, x18, x19, x20, x21, x22, x23, x24, x25, x26, x27, x28, x29, x30, x31, x32, x33, x34, x35, x36, x37, x38, x39, x40, x41, x42, x43, x44, x45, x46, x47, x48, x49, .inl (.int .i64 ((2 : Nat) : Int)), .inl (.bool false), x52, x53, x54, x55, x56, x57, x58, x59, x60, x61, x62, x63, x64, x65, x66, x67, x68, x69, x70, x71, x72, x73, x74, x75, x76, x77, x78, x79, x80, x81, x82, x83, x84, x85, x86, x87, x88, .inl (.int .i64 ((22 : Nat) : Int)), .inl (.bool false), x91, x92, x93, x94, x95, x96, x97, .inl (.agg (ai 22 (dg (V - e * pp)))), .inl (.agg (ai 22 (dg pp))), .inl (.bool false), .inl (.bool true), .inl (.agg (ai 22 (dg (V - e * pp)))), .inl (.agg (ai 22 (dg pp))), .inl (.agg (ai 22 (dg ((V - e * pp) - pp)))), uu] [(ai 44 (dg V), 95), (ai 22 (fun _ => 0), 35), (ai 22 (dg ((V - e * pp) - pp)), 35)] [(ai 44 (dg V), 95), (ai 22 (fun _ => 0), 35), (ai 22 (dg (V - e * pp)), 35)] [#[], #[], ai 22 (dg ((V - e * pp) - pp))] [⟨none, none, some 2, false⟩, nn, nn, ⟨none, some 2, none, false⟩] (by kernel_rfl) (by kernel_rfl) (by kernel_rfl) (by kernel_rfl) (by kernel_rfl) (by kernel_rfl) (by kernel_rfl) (by kernel_rfl) ?_ ?_
          · refine ok_cons (ok_load (b := 2) (off := 0) (c := ai 22 (dg (V - e * pp))) (v := .agg (ai 22 (dg (V - e * pp)))) (ld22 (F := (dg (V - e * pp))) 35) rfl (by kernel_rfl) rfl (by kernel_rfl) (by kernel_rfl) (by kernel_rfl)) ?_
            refine ok_cons (ok_call (vs := #[]) (R := .agg (ai 22 (dg pp))) prime_r rfl (by kernel_rfl) rfl (by kernel_rfl) (by kernel_rfl) (by kernel_rfl) (fun w => by kernel_rfl)) ?_
            refine ok_cons (ok_call (vs := #[.agg (ai 22 (dg (V - e * pp))), .agg (ai 22 (dg pp))]) (R := .agg (ai 22 (dg ((V - e * pp) - pp)))) (fun w => less_r (m := V - e * pp) (n := pp) (q_lt hlte) w) rfl (by kernel_rfl) rfl (by kernel_rfl) (by kernel_rfl) (by kernel_rfl) (fun w => by kernel_rfl)) ?_
            refine ok_cons (ok_store (b := 2) (off := 0) (u := .agg (ai 22 (dg ((V - e * pp) - pp)))) (c := ai 22 (dg (V - e * pp))) (n := ai 22 (dg ((V - e * pp) - pp))) (st22 (F := (dg ((V - e * pp) - pp))) (c := ai 22 (dg (V - e * pp))) 35 (ai_size _ _)) rfl (by kernel_rfl) rfl (by kernel_rfl) (by kernel_rfl) (by kernel_rfl) (by kernel_rfl) (by kernel_rfl)) ?_
            exact ok_nil
          clear h; intro β a w h
          refine blk_norm ?_
          replace h := St.setm h 2 (c := ai 22 (dg ((V - e * pp) - pp))) (c' := ai 22 (dg (V - (e + 1) * pp))) (t := 35) (m' := [(ai 44 (dg V), 95), (ai 22 (fun _ => 0), 35), (ai 22 (dg (V - (e + 1) * pp)), 35)]) (by rw [q_next]) (by kernel_rfl) (by kernel_rfl)
          exact ⟨hlte, _, _, _, _, _, _, _, _, h⟩
        · obtain rfl : e = (V / pp) := by omega
          refine sym_seq ?_
          refine sym_seq ?_
          refine St.region h [.inl (.agg (ai 44 F)), .inr (0, 0), .inr (1, 0), .inl (.int .i64 ((5 : Nat) : Int)), x4, x5, x6, x7, .inl (.int .i64 ((2 : Nat) : Int)), x9, x10, .inr (2, 0), .inl (.int .i64 ((22 : Nat) : Int)), .inl (.int .i64 ((5 : Nat) : Int)), .inl (.bool false), x15, x16, x17, x18, x19, x20, x21, x22, x23, x24, x25, x26, x27, x28, x29, x30, x31, x32, x33, x34, x35, x36, x37, x38, x39, x40, x41, x42, x43, x44, x45, x46, x47, x48, x49, .inl (.int .i64 ((2 : Nat) : Int)), .inl (.bool false), x52, x53, x54, x55, x56, x57, x58, x59, x60, x61, x62, x63, x64, x65, x66, x67, x68, x69, x70, x71, x72, x73, x74, x75, x76, x77, x78, x79, x80, x81, x82, x83, x84, x85, x86, x87, x88, .inl (.int .i64 ((22 : Nat) : Int)), .inl (.bool false), x91, x92, x93, x94, x95, x96, x97, .inl (.agg (ai 22 (dg (V - (V / pp) * pp)))), .inl (.agg (ai 22 (dg pp))), .inl (.bool true), .inl (.bool false), x102, x103, x104, uu] [(ai 44 (dg V), 95), (ai 22 (fun _ => 0), 35), (ai 22 (dg (V - (V / pp) * pp)), 35)] [(ai 44 (dg V), 95), (ai 22 (fun _ => 0), 35), (ai 22 (dg (V - (V / pp) * pp)), 35)] [#[], #[], #[]] [⟨none, none, some 2, false⟩, nn, nn, nn] (by kernel_rfl) (by kernel_rfl) (by kernel_rfl) (by kernel_rfl) (by kernel_rfl) (by kernel_rfl) (by kernel_rfl) (by kernel_rfl) ?_ ?_
          · refine ok_cons (ok_load (b := 2) (off := 0) (c := ai 22 (dg (V - (V / pp) * pp))) (v := .agg (ai 22 (dg (V - (V / pp) * pp)))) (ld22 (F := (dg (V - (V / pp) * pp))) 35) rfl (by kernel_rfl) rfl (by kernel_rfl) (by kernel_rfl) (by kernel_rfl)) ?_
            refine ok_cons (ok_call (vs := #[]) (R := .agg (ai 22 (dg pp))) prime_r rfl (by kernel_rfl) rfl (by kernel_rfl) (by kernel_rfl) (by kernel_rfl) (fun w => by kernel_rfl)) ?_
            refine ok_cons (ok_call (vs := #[.agg (ai 22 (dg (V - (V / pp) * pp))), .agg (ai 22 (dg pp))]) (R := .bool true) (fun w => below_b (sub_big hV) pp_big (decide_eq_true (by rw [q_end]; exact mod_pp _)) w) rfl (by kernel_rfl) rfl (by kernel_rfl) (by kernel_rfl) (by kernel_rfl) (fun w => by kernel_rfl)) ?_
            refine ok_cons (ok_not (b := true) rfl (by kernel_rfl) rfl (by kernel_rfl) (by kernel_rfl) (by kernel_rfl)) ?_
            exact ok_nil
          clear h; intro β a w h
          refine sym_then ?_
          refine sym_cond_f h (by kernel_rfl) (by kernel_rfl) ?_
          refine wp_exit ?_
          refine then_exit ?_
          refine then_exit ?_
          refine blk_exit ?_
          refine sym_then ?_
          refine sym_seq ?_
          refine St.region h [.inl (.agg (ai 44 F)), .inr (0, 0), .inr (1, 0), .inl (.int .i64 ((5 : Nat) : Int)), x4, x5, x6, x7, .inl (.int .i64 ((2 : Nat) : Int)), x9, x10, .inr (2, 0), .inl (.int .i64 ((22 : Nat) : Int)), .inl (.int .i64 ((5 : Nat) : Int)), .inl (.bool false), x15, x16, x17, x18, x19, x20, x21, x22, x23, x24, x25, x26, x27, x28, x29, x30, x31, x32, x33, x34, x35, x36, x37, x38, x39, x40, x41, x42, x43, x44, x45, x46, x47, x48, x49, .inl (.int .i64 ((2 : Nat) : Int)), .inl (.bool false), x52, x53, x54, x55, x56, x57, x58, x59, x60, x61, x62, x63, x64, x65, x66, x67, x68, x69, x70, x71, x72, x73, x74, x75, x76, x77, x78, x79, x80, x81, x82, x83, x84, x85, x86, x87, x88, .inl (.int .i64 ((22 : Nat) : Int)), .inl (.bool false), x91, x92, x93, x94, x95, x96, x97, .inl (.agg (ai 22 (dg (V - (V / pp) * pp)))), .inl (.agg (ai 22 (dg pp))), .inl (.bool true), .inl (.bool false), x102, x103, x104, .inl (.agg (ai 22 (dg (V - (V / pp) * pp))))] [(ai 44 (dg V), 95), (ai 22 (dg (V - (V / pp) * pp)), 35), (ai 22 (dg (V - (V / pp) * pp)), 35)] [(ai 44 (dg V), 95), (ai 22 (fun _ => 0), 35), (ai 22 (dg (V - (V / pp) * pp)), 35)] [#[], ai 22 (dg (V - (V / pp) * pp)), #[]] [⟨none, none, some 2, false⟩, ⟨none, some 1, none, false⟩] (by kernel_rfl) (by kernel_rfl) (by kernel_rfl) (by kernel_rfl) (by kernel_rfl) (by kernel_rfl) (by kernel_rfl) (by kernel_rfl) ?_ ?_
          · refine ok_cons (ok_load (b := 2) (off := 0) (c := ai 22 (dg (V - (V / pp) * pp))) (v := .agg (ai 22 (dg (V - (V / pp) * pp)))) (ld22 (F := (dg (V - (V / pp) * pp))) 35) rfl (by kernel_rfl) rfl (by kernel_rfl) (by kernel_rfl) (by kernel_rfl)) ?_
            refine ok_cons (ok_store (b := 1) (off := 0) (u := .agg (ai 22 (dg (V - (V / pp) * pp)))) (c := ai 22 (fun _ => 0)) (n := ai 22 (dg (V - (V / pp) * pp))) (st22 (F := (dg (V - (V / pp) * pp))) (c := ai 22 (fun _ => 0)) 35 (ai_size _ _)) rfl (by kernel_rfl) rfl (by kernel_rfl) (by kernel_rfl) (by kernel_rfl) (by kernel_rfl) (by kernel_rfl)) ?_
            exact ok_nil
          clear h; intro β a w h
          refine sym_then ?_
          refine wp_ret ?_
          exact sym_retc (b := 1) (t0 := 35) (c := ai 22 (dg (V - (V / pp) * pp))) h Try.results67 (by kernel_rfl) (by kernel_rfl) (by kernel_rfl) Try.underlying35 rfl (by rw [ai_size]; kernel_rfl) (fun hb => ⟨rfl, hb⟩)
end Go.Proofs.Ytgiemldmphbolaa

namespace Go.Proofs.Ytgiemldmphbolaa

def plF (m n k j : Nat) : Nat := if j < k then dg m j + dg n j else 0
theorem plF_zero (m n : Nat) : ai 44 (fun _ => 0) = ai 44 (plF m n 0) := ai_congr fun i _ => by simp [plF]
theorem plF_next (m n k : Nat) : ai 44 (updN (plF m n k) k (dg m k + dg n k)) = ai 44 (plF m n (k + 1)) := ai_congr fun i _ => by
  unfold updN plF
  by_cases e : i = k
  · subst e; simp
  · have : (i < k + 1) = (i < k) := by simp; omega
    simp [e, this]
theorem plF_lt (m n k i : Nat) : plF m n k i < 1099511627776 := by
  unfold plF
  have := dg_lt m i; have := dg_lt n i
  split <;> omega
theorem plF_pv {m n : Nat} (hm : m < 4096 ^ 22) (hn : n < 4096 ^ 22) : pv (plF m n 22) 44 = m + n := by
  have h1 : pv (plF m n 22) 44 = pv (plF m n 22) 22 := pv_zero (a := 22) 22 (fun j h1 _ => by unfold plF; rw [if_neg (by omega)])
  have h2 : pv (plF m n 22) 22 = pv (fun j => dg m j + 1 * dg n j) 22 := pv_congr 22 fun i hi => by unfold plF; rw [if_pos hi, Nat.one_mul]
  rw [h1, h2, pv_add, pv_dg, pv_dg, Nat.mod_eq_of_lt hm, Nat.mod_eq_of_lt hn, Nat.one_mul]
theorem plF_big {m n : Nat} (hm : m < 4096 ^ 22) (hn : n < 4096 ^ 22) : m + n < 4096 ^ 44 := by
  have : 4096 ^ 22 + 4096 ^ 22 < 4096 ^ 44 := by decide +kernel
  omega

theorem dm_le (m n i j : Nat) : dg m i * dg n j ≤ 16769025 := Nat.mul_le_mul (Nat.le_of_lt_succ (dg_lt m i)) (Nat.le_of_lt_succ (dg_lt n j))
/-- One row of a product, k figures done. -/
def roF (G : Nat → Nat) (i a n k j : Nat) : Nat := if i ≤ j ∧ j < i + k then G j + a * dg n (j - i) else G j
theorem roF_zero (G : Nat → Nat) (i a n : Nat) : ai 44 G = ai 44 (roF G i a n 0) := ai_congr fun j _ => by unfold roF; rw [if_neg (by omega)]
theorem roF_at (G : Nat → Nat) (i a n k : Nat) : roF G i a n k (i + k) = G (i + k) := by unfold roF; rw [if_neg (by omega)]
theorem roF_next (G : Nat → Nat) (i a n k : Nat) : ai 44 (updN (roF G i a n k) (i + k) (roF G i a n k (i + k) + a * dg n k)) = ai 44 (roF G i a n (k + 1)) := ai_congr fun j _ => by
  rw [roF_at]
  unfold updN
  by_cases e : j = i + k
  · subst e; rw [if_pos rfl]; unfold roF; rw [if_pos (by omega), show i + k - i = k by omega]
  · rw [if_neg e]; unfold roF
    by_cases h : i ≤ j ∧ j < i + k
    · rw [if_pos h, if_pos (by omega)]
    · rw [if_neg h, if_neg (by omega)]
/-- The rows of a product. -/
def tmF (m n : Nat) : Nat → Nat → Nat
  | 0 => fun _ => 0
  | i + 1 => roF (tmF m n i) i (dg m i) n 22
theorem tmF_lt (m n : Nat) : ∀ i j, tmF m n i j ≤ i * 16769025 := by
  intro i
  induction i with
  | zero => intro j; simp [tmF]
  | succ i ih =>
    intro j
    show roF (tmF m n i) i (dg m i) n 22 j ≤ _
    have h1 := ih j
    have h2 := dm_le m n i (j - i)
    rw [Nat.succ_mul]
    generalize i * 16769025 = y at *
    generalize dg m i * dg n (j - i) = x at *
    unfold roF
    split
    · generalize tmF m n i j = t at *
      show t + dg m i * dg n (j - i) ≤ _
      have h2 := dm_le m n i (j - i)
      omega
    · omega
theorem pv_roF (G : Nat → Nat) {i K : Nat} (n a : Nat) : ∀ k, i + k ≤ K → pv (roF G i a n k) K = pv G K + a * (n % 4096 ^ k) * 4096 ^ i := by
  intro k
  induction k with
  | zero =>
    intro _
    rw [pv_congr (G := G) K (fun j _ => by unfold roF; rw [if_neg (by omega)]), Nat.pow_zero, Nat.mod_one]; simp
  | succ k ih =>
    intro hk
    have ih := ih (by omega)
    have h1 : pv (roF G i a n (k + 1)) K = pv (updN (roF G i a n k) (i + k) (roF G i a n k (i + k) + a * dg n k)) K := pv_congr K fun j _ => by
      rw [roF_at]
      unfold updN
      by_cases e : j = i + k
      · subst e; rw [if_pos rfl]; unfold roF; rw [if_pos (by omega), show i + k - i = k by omega]
      · rw [if_neg e]; unfold roF
        by_cases h : i ≤ j ∧ j < i + k
        · rw [if_pos h, if_pos (by omega)]
        · rw [if_neg h, if_neg (by omega)]
    have h2 := pv_upd (roF G i a n k) (i + k) (roF G i a n k (i + k) + a * dg n k) K (by omega)
    rw [← h1, ih, Nat.add_mul] at h2
    have h3 : a * (n % 4096 ^ (k + 1)) * 4096 ^ i = a * (n % 4096 ^ k) * 4096 ^ i + a * dg n k * 4096 ^ (i + k) := by
      rw [mod_step, Nat.mul_add, Nat.add_mul, Nat.pow_add, Nat.mul_assoc a (dg n k), Nat.mul_comm (4096 ^ i) (4096 ^ k)]
      simp only [Nat.mul_assoc]
    omega
theorem pv_tmF {m n : Nat} (hn : n < 4096 ^ 22) : ∀ i, i ≤ 22 → pv (tmF m n i) 44 = (m % 4096 ^ i) * n := by
  intro i
  induction i with
  | zero =>
    intro _
    rw [Nat.pow_zero, Nat.mod_one, Nat.zero_mul]
    have h : ∀ k, pv (tmF m n 0) k = 0 := by
      intro k
      induction k with
      | zero => rfl
      | succ k ih => rw [pv, ih]; simp [tmF]
    exact h 44
  | succ i ih =>
    intro hi
    show pv (roF (tmF m n i) i (dg m i) n 22) 44 = _
    rw [pv_roF _ _ _ 22 (by omega), ih (by omega), Nat.mod_eq_of_lt hn, mod_step, Nat.add_mul]
    congr 1
    rw [Nat.mul_assoc, Nat.mul_comm n, ← Nat.mul_assoc]
theorem tmF_pv {m n : Nat} (hm : m < 4096 ^ 22) (hn : n < 4096 ^ 22) : pv (tmF m n 22) 44 = m * n := by
  rw [pv_tmF hn 22 (by omega), Nat.mod_eq_of_lt hm]
theorem tmF_big {m n : Nat} (hm : m < 4096 ^ 22) (hn : n < 4096 ^ 22) : m * n < 4096 ^ 44 := by
  rw [show 4096 ^ 44 = 4096 ^ 22 * 4096 ^ 22 from by decide +kernel]
  exact Nat.mul_lt_mul_of_lt_of_lt hm hn
theorem tmF_fl (m n i j : Nat) (hi : i ≤ 22) : tmF m n i j < 1099511627776 := by
  have := tmF_lt m n i j
  have : i * 16769025 ≤ 22 * 16769025 := Nat.mul_le_mul_right _ hi
  omega
end Go.Proofs.Ytgiemldmphbolaa

namespace Go.Proofs.Ytgiemldmphbolaa
open Go.RowKit
set_option maxHeartbeats 2000000 in
theorem plus_r {m n : Nat} (hm : m < 4096 ^ 22) (hn : n < 4096 ^ 22) (W0 : World) : Calls Try.prog 42 #[.agg (ai 22 (dg m)), .agg (ai 22 (dg n))] W0 fun e w' => e = .returned (.agg (ai 22 (dg ((m + n) % pp)))) ∧ Below W0.heap.size W0 w' := by
  refine sym_enter Try.func42 Try.ntmps42 rfl [.inl (.agg (ai 22 (dg m))), .inl (.agg (ai 22 (dg n))), uu, uu, uu, uu, uu, uu, uu, uu, uu, uu, uu, uu, uu, uu, uu, uu, uu, uu, uu, uu] (by kernel_rfl) (by kernel_rfl) ?_
  intro β a h
  refine sym_seq ?_
  refine St.region h [.inl (.agg (ai 22 (dg m))), .inl (.agg (ai 22 (dg n))), .inr (0, 0), .inr (1, 0), .inr (2, 0), uu, uu, uu, uu, uu, uu, uu, uu, uu, uu, uu, uu, uu, uu, uu, uu, uu] [(ai 22 (dg m), 35), (ai 22 (dg n), 35), (ai 22 (fun _ => 0), 35)] [(ai 22 (dg m), 35), (ai 22 (dg n), 35), (ai 22 (fun _ => 0), 35)] [#[], #[], #[]] [⟨some 0, none, none, false⟩, ⟨some 1, none, none, false⟩, ⟨some 2, none, none, false⟩] (by kernel_rfl) (by kernel_rfl) (by kernel_rfl) (by kernel_rfl) (by kernel_rfl) (by kernel_rfl) (by kernel_rfl) (by kernel_rfl) ?_ ?_
  · refine ok_cons (ok_box (b := 0) (u := .agg (ai 22 (dg m))) (bx22 (F := (dg m))) rfl (by kernel_rfl) rfl (by kernel_rfl) (by kernel_rfl) (by kernel_rfl) (by kernel_rfl)) ?_
    refine ok_cons (ok_box (b := 1) (u := .agg (ai 22 (dg n))) (bx22 (F := (dg n))) rfl (by kernel_rfl) rfl (by kernel_rfl) (by kernel_rfl) (by kernel_rfl) (by kernel_rfl)) ?_
    refine ok_cons (ok_alloc (b := 2) al22 rfl (by kernel_rfl) rfl (by kernel_rfl) (by kernel_rfl)) ?_
    exact ok_nil
  clear h; intro β a w h
  refine sym_then ?_
  refine sym_seq ?_
  refine St.region h [.inl (.agg (ai 22 (dg m))), .inl (.agg (ai 22 (dg n))), .inr (0, 0), .inr (1, 0), .inr (2, 0), .inr (3, 0), uu, uu, uu, uu, uu, uu, uu, uu, uu, uu, uu, uu, uu, uu, uu, uu] [(ai 22 (dg m), 35), (ai 22 (dg n), 35), (ai 22 (fun _ => 0), 35), (ai 44 (fun _ => 0), 95)] [(ai 22 (dg m), 35), (ai 22 (dg n), 35), (ai 22 (fun _ => 0), 35), (ai 44 (fun _ => 0), 95)] [#[], #[], #[], #[]] [⟨some 3, none, none, false⟩] (by kernel_rfl) (by kernel_rfl) (by kernel_rfl) (by kernel_rfl) (by kernel_rfl) (by kernel_rfl) (by kernel_rfl) (by kernel_rfl) ?_ ?_
  · refine ok_cons (ok_alloc (b := 3) al44 rfl (by kernel_rfl) rfl (by kernel_rfl) (by kernel_rfl)) ?_
    exact ok_nil
  clear h; intro β a w h
  refine sym_then ?_
  refine sym_seq ?_
  refine sym_seq ?_
  refine St.region h [.inl (.agg (ai 22 (dg m))), .inl (.agg (ai 22 (dg n))), .inr (0, 0), .inr (1, 0), .inr (2, 0), .inr (3, 0), .inl (.int .i64 ((0 : Nat) : Int)), uu, uu, uu, uu, uu, uu, uu, uu, uu, uu, uu, uu, uu, uu, uu] [(ai 22 (dg m), 35), (ai 22 (dg n), 35), (ai 22 (fun _ => 0), 35), (ai 44 (fun _ => 0), 95)] [(ai 22 (dg m), 35), (ai 22 (dg n), 35), (ai 22 (fun _ => 0), 35), (ai 44 (fun _ => 0), 95)] [#[], #[], #[], #[]] [nn] (by kernel_rfl) (by kernel_rfl) (by kernel_rfl) (by kernel_rfl) (by kernel_rfl) (by kernel_rfl) (by kernel_rfl) (by kernel_rfl) ?_ ?_
  · refine ok_cons (ok_mv (Or.inr rfl) (by kernel_rfl) rfl (by kernel_rfl) (by kernel_rfl)) ?_
    exact ok_nil
  clear h; intro β a w h
  refine sym_then ?_
  refine blk_in ?_
  replace h := St.setm h 3 (c := ai 44 (fun _ => 0)) (c' := ai 44 (plF m n 0)) (t := 95) (m' := [(ai 22 (dg m), 35), (ai 22 (dg n), 35), (ai 22 (fun _ => 0), 35), (ai 44 (plF m n 0), 95)]) (plF_zero m n) (by kernel_rfl) (by kernel_rfl)
  refine loop_up 22 (fun k a w => ∃ (x7 x8 x9 x10 x11 x12 x13 x14 x15 x16 x17 x18 x19 : SV) (β : Nat → Nat), St W0 [.inl (.agg (ai 22 (dg m))), .inl (.agg (ai 22 (dg n))), .inr (0, 0), .inr (1, 0), .inr (2, 0), .inr (3, 0), .inl (.int .i64 ((k : Nat) : Int)), x7, x8, x9, x10, x11, x12, x13, x14, x15, x16, x17, x18, x19, uu, uu] [(ai 22 (dg m), 35), (ai 22 (dg n), 35), (ai 22 (fun _ => 0), 35), (ai 44 (plF m n k), 95)] β a w) ⟨_, _, _, _, _, _, _, _, _, _, _, _, _, β, h⟩ ?_
  clear h; rintro k a w hkk ⟨x7, x8, x9, x10, x11, x12, x13, x14, x15, x16, x17, x18, x19, β, h⟩
  have g1 := dg_lt m k
  have g2 := dg_lt n k
  rcases Nat.lt_or_ge k 22 with hltk | hgek
  · refine sym_seq ?_
    refine sym_seq ?_
    refine St.region h [.inl (.agg (ai 22 (dg m))), .inl (.agg (ai 22 (dg n))), .inr (0, 0), .inr (1, 0), .inr (2, 0), .inr (3, 0), .inl (.int .i64 ((k : Nat) : Int)), .inl (.int .i64 ((k : Nat) : Int)), .inl (.bool true), x9, x10, x11, x12, x13, x14, x15, x16, x17, x18, x19, uu, uu] [(ai 22 (dg m), 35), (ai 22 (dg n), 35), (ai 22 (fun _ => 0), 35), (ai 44 (plF m n k), 95)] [(ai 22 (dg m), 35), (ai 22 (dg n), 35), (ai 22 (fun _ => 0), 35), (ai 44 (plF m n k), 95)] [#[], #[], #[], #[]] [nn, nn] (by kernel_rfl) (by kernel_rfl) (by kernel_rfl) (by kernel_rfl) (by kernel_rfl) (by kernel_rfl) (by kernel_rfl) (by kernel_rfl) ?_ ?_
    · refine ok_cons (ok_mv (Or.inl rfl) (by kernel_rfl) rfl (by kernel_rfl) (by kernel_rfl)) ?_
      refine ok_cons (ok_bin (x1 := .int .i64 ((k : Nat) : Int)) (u1 := .int .i64 ((22 : Nat) : Int)) (v := .bool true) (lt_i (m := ((k : Nat) : Int)) (n := ((22 : Nat) : Int)) (decide_eq_true (by omega))) rfl (by kernel_rfl) rfl (by kernel_rfl) (by kernel_rfl) (by kernel_rfl) (by kernel_rfl) (by kernel_rfl)) ?_
      exact ok_nil
    clear h; intro β a w h
    refine sym_then ?_
    refine sym_cond_t h (by kernel_rfl) (by kernel_rfl) ?_
    refine wp_skip ?_
    refine sym_then ?_
    refine sym_seq ?_
    refine blk_in ?_
    refine St.region h [.inl (.agg (ai 22 (dg m))), .inl (.agg (ai 22 (dg n))), .inr (0, 0), .inr (1, 0), .inr (2, 0), .inr (3, 0), .inl (.int .i64 ((k : Nat) : Int)), .inl (.int .i64 ((k : Nat) : Int)), .inl (.bool true), x9, x10, .inl (.int .i64 ((k : Nat) : Int)), .inl (.int .i64 ((k : Nat) : Int)), .inr (0, k), .inl (.int .i64 ((((dg m) k) : Nat) : Int)), .inl (.int .i64 ((k : Nat) : Int)), .inr (1, k), .inl (.int .i64 ((((dg n) k) : Nat) : Int)), .inl (.int .i64 (((((dg m) k) + ((dg n) k)) : Nat) : Int)), .inr (3, k), uu, uu] [(ai 22 (dg m), 35), (ai 22 (dg n), 35), (ai 22 (fun _ => 0), 35), (ai 44 (updN (plF m n k) k (((dg m) k) + ((dg n) k))), 95)] [(ai 22 (dg m), 35), (ai 22 (dg n), 35), (ai 22 (fun _ => 0), 35), (ai 44 (plF m n k), 95)] [#[], #[], #[], ai 44 (updN (plF m n k) k (((dg m) k) + ((dg n) k)))] [nn, nn, nn, ⟨none, none, some 0, false⟩, nn, nn, ⟨none, none, some 1, false⟩, nn, nn, ⟨none, some 3, none, false⟩] (by kernel_rfl) (by kernel_rfl) (by kernel_rfl) (by kernel_rfl) (by kernel_rfl) (by kernel_rfl) (by kernel_rfl) (by kernel_rfl) ?_ ?_
    · refine ok_cons (ok_mv (Or.inl rfl) (by kernel_rfl) rfl (by kernel_rfl) (by kernel_rfl)) ?_
      refine ok_cons (ok_mv (Or.inl rfl) (by kernel_rfl) rfl (by kernel_rfl) (by kernel_rfl)) ?_
      refine ok_cons (ok_iaddr (b := 0) (off := 0) (off' := k) (u := .int .i64 ((k : Nat) : Int)) (ix22 (i := k) (by omega)) rfl (by kernel_rfl) rfl (by kernel_rfl) (by kernel_rfl) (by kernel_rfl) (by kernel_rfl)) ?_
      refine ok_cons (ok_load (b := 0) (off := k) (c := ai 22 (dg m)) (v := .int .i64 ((((dg m) k) : Nat) : Int)) (ld_at (n := 22) (F := (dg m)) (i := k) (t0 := 35) (by omega)) rfl (by kernel_rfl) rfl (by kernel_rfl) (by kernel_rfl) (by kernel_rfl)) ?_
      refine ok_cons (ok_mv (Or.inl rfl) (by kernel_rfl) rfl (by kernel_rfl) (by kernel_rfl)) ?_
      refine ok_cons (ok_iaddr (b := 1) (off := 0) (off' := k) (u := .int .i64 ((k : Nat) : Int)) (ix22 (i := k) (by omega)) rfl (by kernel_rfl) rfl (by kernel_rfl) (by kernel_rfl) (by kernel_rfl) (by kernel_rfl)) ?_
      refine ok_cons (ok_load (b := 1) (off := k) (c := ai 22 (dg n)) (v := .int .i64 ((((dg n) k) : Nat) : Int)) (ld_at (n := 22) (F := (dg n)) (i := k) (t0 := 35) (by omega)) rfl (by kernel_rfl) rfl (by kernel_rfl) (by kernel_rfl) (by kernel_rfl)) ?_
      refine ok_cons (ok_bin (x1 := .int .i64 ((((dg m) k) : Nat) : Int)) (u1 := .int .i64 ((((dg n) k) : Nat) : Int)) (v := .int .i64 (((((dg m) k) + ((dg n) k)) : Nat) : Int)) (ad_i (m := ((dg m) k)) (n := ((dg n) k)) (by omega)) rfl (by kernel_rfl) rfl (by kernel_rfl) (by kernel_rfl) (by kernel_rfl) (by kernel_rfl) (by kernel_rfl)) ?_
      refine ok_cons (ok_iaddr (b := 3) (off := 0) (off' := k) (u := .int .i64 ((k : Nat) : Int)) (ix44 (i := k) (by omega)) rfl (by kernel_rfl) rfl (by kernel_rfl) (by kernel_rfl) (by kernel_rfl) (by kernel_rfl)) ?_
      refine ok_cons (ok_store (b := 3) (off := k) (u := .int .i64 (((((dg m) k) + ((dg n) k)) : Nat) : Int)) (c := ai 44 (plF m n k)) (n := ai 44 (updN (plF m n k) k (((dg m) k) + ((dg n) k)))) (st_at (n := 44) (F := (plF m n k)) (i := k) (v := (((dg m) k) + ((dg n) k))) (t0 := 95) (by omega)) rfl (by kernel_rfl) rfl (by kernel_rfl) (by kernel_rfl) (by kernel_rfl) (by kernel_rfl) (by kernel_rfl)) ?_
      exact ok_nil
    clear h; intro β a w h
    refine blk_norm ?_
    refine sym_then ?_
    refine St.region h [.inl (.agg (ai 22 (dg m))), .inl (.agg (ai 22 (dg n))), .inr (0, 0), .inr (1, 0), .inr (2, 0), .inr (3, 0), .inl (.int .i64 (((k + 1) : Nat) : Int)), .inl (.int .i64 ((k : Nat) : Int)), .inl (.bool true), .inl (.int .i64 ((k : Nat) : Int)), .inl (.int .i64 (((k + 1) : Nat) : Int)), .inl (.int .i64 ((k : Nat) : Int)), .inl (.int .i64 ((k : Nat) : Int)), .inr (0, k), .inl (.int .i64 ((((dg m) k) : Nat) : Int)), .inl (.int .i64 ((k : Nat) : Int)), .inr (1, k), .inl (.int .i64 ((((dg n) k) : Nat) : Int)), .inl (.int .i64 (((((dg m) k) + ((dg n) k)) : Nat) : Int)), .inr (3, k), uu, uu] [(ai 22 (dg m), 35), (ai 22 (dg n), 35), (ai 22 (fun _ => 0), 35), (ai 44 (updN (plF m n k) k (((dg m) k) + ((dg n) k))), 95)] [(ai 22 (dg m), 35), (ai 22 (dg n), 35), (ai 22 (fun _ => 0), 35), (ai 44 (updN (plF m n k) k (((dg m) k) + ((dg n) k))), 95)] [#[], #[], #[], #[]] [⟨none, none, none, true⟩, nn, nn] (by kernel_rfl) (by kernel_rfl) (by kernel_rfl) (by kernel_rfl) (by kernel_rfl) (by kernel_rfl) (by kernel_rfl) (by kernel_rfl) ?_ ?_
    · refine ok_cons (ok_mv0 rfl (by kernel_rfl) rfl (by kernel_rfl) (by kernel_rfl)) ?_
      refine ok_cons (ok_bin (x1 := .int .i64 ((k : Nat) : Int)) (u1 := .int .i64 ((1 : Nat) : Int)) (v := .int .i64 (((k + 1) : Nat) : Int)) (ad_i (m := k) (n := 1) (by omega)) rfl (by kernel_rfl) rfl (by kernel_rfl) (by kernel_rfl) (by kernel_rfl) (by kernel_rfl) (by kernel_rfl)) ?_
      refine ok_cons (ok_mv (Or.inr rfl) (by kernel_rfl) rfl (by kernel_rfl) (by kernel_rfl)) ?_
      exact ok_nil
    clear h; intro β a w h
    replace h := St.setm h 3 (c := ai 44 (updN (plF m n k) k (((dg m) k) + ((dg n) k)))) (c' := ai 44 (plF m n (k + 1))) (t := 95) (m' := [(ai 22 (dg m), 35), (ai 22 (dg n), 35), (ai 22 (fun _ => 0), 35), (ai 44 (plF m n (k + 1)), 95)]) (plF_next m n k) (by kernel_rfl) (by kernel_rfl)
    exact ⟨hltk, _, _, _, _, _, _, _, _, _, _, _, _, _, _, h⟩
  · obtain rfl : k = 22 := by omega
    refine sym_seq ?_
    refine sym_seq ?_
    refine St.region h [.inl (.agg (ai 22 (dg m))), .inl (.agg (ai 22 (dg n))), .inr (0, 0), .inr (1, 0), .inr (2, 0), .inr (3, 0), .inl (.int .i64 ((22 : Nat) : Int)), .inl (.int .i64 ((22 : Nat) : Int)), .inl (.bool false), x9, x10, x11, x12, x13, x14, x15, x16, x17, x18, x19, uu, uu] [(ai 22 (dg m), 35), (ai 22 (dg n), 35), (ai 22 (fun _ => 0), 35), (ai 44 (plF m n 22), 95)] [(ai 22 (dg m), 35), (ai 22 (dg n), 35), (ai 22 (fun _ => 0), 35), (ai 44 (plF m n 22), 95)] [#[], #[], #[], #[]] [nn, nn] (by kernel_rfl) (by kernel_rfl) (by kernel_rfl) (by kernel_rfl) (by kernel_rfl) (by kernel_rfl) (by kernel_rfl) (by kernel_rfl) ?_ ?_
    · refine ok_cons (ok_mv (Or.inl rfl) (by kernel_rfl) rfl (by kernel_rfl) (by kernel_rfl)) ?_
      refine ok_cons (ok_bin (x1 := .int .i64 ((22 : Nat) : Int)) (u1 := .int .i64 ((22 : Nat) : Int)) (v := .bool false) (lt_i (m := ((22 : Nat) : Int)) (n := ((22 : Nat) : Int)) (decide_eq_false (by omega))) rfl (by kernel_rfl) rfl (by kernel_rfl) (by kernel_rfl) (by kernel_rfl) (by kernel_rfl) (by kernel_rfl)) ?_
      exact ok_nil
    clear h; intro β a w h
    refine sym_then ?_
    refine sym_cond_f h (by kernel_rfl) (by kernel_rfl) ?_
    refine wp_exit ?_
    refine then_exit ?_
    refine then_exit ?_
    refine blk_exit ?_
    refine sym_then ?_
    refine sym_seq ?_
    refine St.region h [.inl (.agg (ai 22 (dg m))), .inl (.agg (ai 22 (dg n))), .inr (0, 0), .inr (1, 0), .inr (2, 0), .inr (3, 0), .inl (.int .i64 ((22 : Nat) : Int)), .inl (.int .i64 ((22 : Nat) : Int)), .inl (.bool false), x9, x10, x11, x12, x13, x14, x15, x16, x17, x18, x19, .inl (.agg (ai 44 (plF m n 22))), .inl (.agg (ai 22 (dg ((m + n) % pp))))] [(ai 22 (dg m), 35), (ai 22 (dg n), 35), (ai 22 (dg ((m + n) % pp)), 35), (ai 44 (plF m n 22), 95)] [(ai 22 (dg m), 35), (ai 22 (dg n), 35), (ai 22 (fun _ => 0), 35), (ai 44 (plF m n 22), 95)] [#[], #[], ai 22 (dg ((m + n) % pp)), #[]] [⟨none, none, some 3, false⟩, nn, ⟨none, some 2, none, false⟩] (by kernel_rfl) (by kernel_rfl) (by kernel_rfl) (by kernel_rfl) (by kernel_rfl) (by kernel_rfl) (by kernel_rfl) (by kernel_rfl) ?_ ?_
    · refine ok_cons (ok_load (b := 3) (off := 0) (c := ai 44 (plF m n 22)) (v := .agg (ai 44 (plF m n 22))) (ld44 (F := (plF m n 22)) 95) rfl (by kernel_rfl) rfl (by kernel_rfl) (by kernel_rfl) (by kernel_rfl)) ?_
      refine ok_cons (ok_call (vs := #[.agg (ai 44 (plF m n 22))]) (R := .agg (ai 22 (dg ((m + n) % pp)))) (fun w => least_r (plF_lt m n 22) (plF_pv hm hn) (plF_big hm hn) w) rfl (by kernel_rfl) rfl (by kernel_rfl) (by kernel_rfl) (by kernel_rfl) (fun w => by kernel_rfl)) ?_
      refine ok_cons (ok_store (b := 2) (off := 0) (u := .agg (ai 22 (dg ((m + n) % pp)))) (c := ai 22 (fun _ => 0)) (n := ai 22 (dg ((m + n) % pp))) (st22 (F := (dg ((m + n) % pp))) (c := ai 22 (fun _ => 0)) 35 (ai_size _ _)) rfl (by kernel_rfl) rfl (by kernel_rfl) (by kernel_rfl) (by kernel_rfl) (by kernel_rfl) (by kernel_rfl)) ?_
      exact ok_nil
    clear h; intro β a w h
    refine sym_then ?_
    refine wp_ret ?_
    exact sym_retc (b := 2) (t0 := 35) (c := ai 22 (dg ((m + n) % pp))) h Try.results42 (by kernel_rfl) (by kernel_rfl) (by kernel_rfl) Try.underlying35 rfl (by rw [ai_size]; kernel_rfl) (fun hb => ⟨rfl, hb⟩)
set_option maxHeartbeats 2000000 in
theorem minus_r {m n : Nat} (hm : m < 4096 ^ 22) (hn : n ≤ pp) (W0 : World) : Calls Try.prog 41 #[.agg (ai 22 (dg m)), .agg (ai 22 (dg n))] W0 fun e w' => e = .returned (.agg (ai 22 (dg ((m + (pp - n)) % pp)))) ∧ Below W0.heap.size W0 w' := by
  have hpn : pp - n < 4096 ^ 22 := Nat.lt_of_le_of_lt (Nat.sub_le _ _) pp_big
  refine sym_enter Try.func41 Try.ntmps41 rfl [.inl (.agg (ai 22 (dg m))), .inl (.agg (ai 22 (dg n))), uu, uu, uu, uu, uu, uu, uu, uu] (by kernel_rfl) (by kernel_rfl) ?_
  intro β a h
  refine sym_seq ?_
  refine St.region h [.inl (.agg (ai 22 (dg m))), .inl (.agg (ai 22 (dg n))), .inr (0, 0), .inr (1, 0), .inr (2, 0), uu, uu, uu, uu, uu] [(ai 22 (dg m), 35), (ai 22 (dg n), 35), (ai 22 (fun _ => 0), 35)] [(ai 22 (dg m), 35), (ai 22 (dg n), 35), (ai 22 (fun _ => 0), 35)] [#[], #[], #[]] [⟨some 0, none, none, false⟩, ⟨some 1, none, none, false⟩, ⟨some 2, none, none, false⟩] (by kernel_rfl) (by kernel_rfl) (by kernel_rfl) (by kernel_rfl) (by kernel_rfl) (by kernel_rfl) (by kernel_rfl) (by kernel_rfl) ?_ ?_
  · refine ok_cons (ok_box (b := 0) (u := .agg (ai 22 (dg m))) (bx22 (F := (dg m))) rfl (by kernel_rfl) rfl (by kernel_rfl) (by kernel_rfl) (by kernel_rfl) (by kernel_rfl)) ?_
    refine ok_cons (ok_box (b := 1) (u := .agg (ai 22 (dg n))) (bx22 (F := (dg n))) rfl (by kernel_rfl) rfl (by kernel_rfl) (by kernel_rfl) (by kernel_rfl) (by kernel_rfl)) ?_
    refine ok_cons (ok_alloc (b := 2) al22 rfl (by kernel_rfl) rfl (by kernel_rfl) (by kernel_rfl)) ?_
    exact ok_nil
  clear h; intro β a w h
  refine sym_then ?_
  refine sym_seq ?_
  refine St.region h [.inl (.agg (ai 22 (dg m))), .inl (.agg (ai 22 (dg n))), .inr (0, 0), .inr (1, 0), .inr (2, 0), .inl (.agg (ai 22 (dg m))), .inl (.agg (ai 22 (dg pp))), .inl (.agg (ai 22 (dg n))), .inl (.agg (ai 22 (dg (pp - n)))), .inl (.agg (ai 22 (dg ((m + (pp - n)) % pp))))] [(ai 22 (dg m), 35), (ai 22 (dg n), 35), (ai 22 (dg ((m + (pp - n)) % pp)), 35)] [(ai 22 (dg m), 35), (ai 22 (dg n), 35), (ai 22 (fun _ => 0), 35)] [#[], #[], ai 22 (dg ((m + (pp - n)) % pp))] [⟨none, none, some 0, false⟩, nn, ⟨none, none, some 1, false⟩, nn, nn, ⟨none, some 2, none, false⟩] (by kernel_rfl) (by kernel_rfl) (by kernel_rfl) (by kernel_rfl) (by kernel_rfl) (by kernel_rfl) (by kernel_rfl) (by kernel_rfl) ?_ ?_
  · refine ok_cons (ok_load (b := 0) (off := 0) (c := ai 22 (dg m)) (v := .agg (ai 22 (dg m))) (ld22 (F := (dg m)) 35) rfl (by kernel_rfl) rfl (by kernel_rfl) (by kernel_rfl) (by kernel_rfl)) ?_
    refine ok_cons (ok_call (vs := #[]) (R := .agg (ai 22 (dg pp))) prime_r rfl (by kernel_rfl) rfl (by kernel_rfl) (by kernel_rfl) (by kernel_rfl) (fun w => by kernel_rfl)) ?_
    refine ok_cons (ok_load (b := 1) (off := 0) (c := ai 22 (dg n)) (v := .agg (ai 22 (dg n))) (ld22 (F := (dg n)) 35) rfl (by kernel_rfl) rfl (by kernel_rfl) (by kernel_rfl) (by kernel_rfl)) ?_
    refine ok_cons (ok_call (vs := #[.agg (ai 22 (dg pp)), .agg (ai 22 (dg n))]) (R := .agg (ai 22 (dg (pp - n)))) (fun w => less_r hn w) rfl (by kernel_rfl) rfl (by kernel_rfl) (by kernel_rfl) (by kernel_rfl) (fun w => by kernel_rfl)) ?_
    refine ok_cons (ok_call (vs := #[.agg (ai 22 (dg m)), .agg (ai 22 (dg (pp - n)))]) (R := .agg (ai 22 (dg ((m + (pp - n)) % pp)))) (fun w => plus_r hm hpn w) rfl (by kernel_rfl) rfl (by kernel_rfl) (by kernel_rfl) (by kernel_rfl) (fun w => by kernel_rfl)) ?_
    refine ok_cons (ok_store (b := 2) (off := 0) (u := .agg (ai 22 (dg ((m + (pp - n)) % pp)))) (c := ai 22 (fun _ => 0)) (n := ai 22 (dg ((m + (pp - n)) % pp))) (st22 (F := (dg ((m + (pp - n)) % pp))) (c := ai 22 (fun _ => 0)) 35 (ai_size _ _)) rfl (by kernel_rfl) rfl (by kernel_rfl) (by kernel_rfl) (by kernel_rfl) (by kernel_rfl) (by kernel_rfl)) ?_
    exact ok_nil
  clear h; intro β a w h
  refine sym_then ?_
  refine wp_ret ?_
  exact sym_retc (b := 2) (t0 := 35) (c := ai 22 (dg ((m + (pp - n)) % pp))) h Try.results41 (by kernel_rfl) (by kernel_rfl) (by kernel_rfl) Try.underlying35 rfl (by rw [ai_size]; kernel_rfl) (fun hb => ⟨rfl, hb⟩)
set_option maxHeartbeats 2000000 in
theorem times_r {m n : Nat} (hm : m < 4096 ^ 22) (hn : n < 4096 ^ 22) (W0 : World) : Calls Try.prog 38 #[.agg (ai 22 (dg m)), .agg (ai 22 (dg n))] W0 fun e w' => e = .returned (.agg (ai 22 (dg (m * n % pp)))) ∧ Below W0.heap.size W0 w' := by
  refine sym_enter Try.func38 Try.ntmps38 rfl [.inl (.agg (ai 22 (dg m))), .inl (.agg (ai 22 (dg n))), uu, uu, uu, uu, uu, uu, uu, uu, uu, uu, uu, uu, uu, uu, uu, uu, uu, uu, uu, uu, uu, uu, uu, uu, uu, uu, uu, uu, uu, uu, uu, uu, uu] (by kernel_rfl) (by kernel_rfl) ?_
  intro β a h
  refine sym_seq ?_
  refine St.region h [.inl (.agg (ai 22 (dg m))), .inl (.agg (ai 22 (dg n))), .inr (0, 0), .inr (1, 0), .inr (2, 0), uu, uu, uu, uu, uu, uu, uu, uu, uu, uu, uu, uu, uu, uu, uu, uu, uu, uu, uu, uu, uu, uu, uu, uu, uu, uu, uu, uu, uu, uu] [(ai 22 (dg m), 35), (ai 22 (dg n), 35), (ai 22 (fun _ => 0), 35)] [(ai 22 (dg m), 35), (ai 22 (dg n), 35), (ai 22 (fun _ => 0), 35)] [#[], #[], #[]] [⟨some 0, none, none, false⟩, ⟨some 1, none, none, false⟩, ⟨some 2, none, none, false⟩] (by kernel_rfl) (by kernel_rfl) (by kernel_rfl) (by kernel_rfl) (by kernel_rfl) (by kernel_rfl) (by kernel_rfl) (by kernel_rfl) ?_ ?_
  · refine ok_cons (ok_box (b := 0) (u := .agg (ai 22 (dg m))) (bx22 (F := (dg m))) rfl (by kernel_rfl) rfl (by kernel_rfl) (by kernel_rfl) (by kernel_rfl) (by kernel_rfl)) ?_
    refine ok_cons (ok_box (b := 1) (u := .agg (ai 22 (dg n))) (bx22 (F := (dg n))) rfl (by kernel_rfl) rfl (by kernel_rfl) (by kernel_rfl) (by kernel_rfl) (by kernel_rfl)) ?_
    refine ok_cons (ok_alloc (b := 2) al22 rfl (by kernel_rfl) rfl (by kernel_rfl) (by kernel_rfl)) ?_
    exact ok_nil
  clear h; intro β a w h
  refine sym_then ?_
  refine sym_seq ?_
  refine St.region h [.inl (.agg (ai 22 (dg m))), .inl (.agg (ai 22 (dg n))), .inr (0, 0), .inr (1, 0), .inr (2, 0), .inr (3, 0), uu, uu, uu, uu, uu, uu, uu, uu, uu, uu, uu, uu, uu, uu, uu, uu, uu, uu, uu, uu, uu, uu, uu, uu, uu, uu, uu, uu, uu] [(ai 22 (dg m), 35), (ai 22 (dg n), 35), (ai 22 (fun _ => 0), 35), (ai 44 (fun _ => 0), 95)] [(ai 22 (dg m), 35), (ai 22 (dg n), 35), (ai 22 (fun _ => 0), 35), (ai 44 (fun _ => 0), 95)] [#[], #[], #[], #[]] [⟨some 3, none, none, false⟩] (by kernel_rfl) (by kernel_rfl) (by kernel_rfl) (by kernel_rfl) (by kernel_rfl) (by kernel_rfl) (by kernel_rfl) (by kernel_rfl) ?_ ?_
  · refine ok_cons (ok_alloc (b := 3) al44 rfl (by kernel_rfl) rfl (by kernel_rfl) (by kernel_rfl)) ?_
    exact ok_nil
  clear h; intro β a w h
  refine sym_then ?_
  refine sym_seq ?_
  refine sym_seq ?_
  refine St.region h [.inl (.agg (ai 22 (dg m))), .inl (.agg (ai 22 (dg n))), .inr (0, 0), .inr (1, 0), .inr (2, 0), .inr (3, 0), .inl (.int .i64 ((0 : Nat) : Int)), uu, uu, uu, uu, uu, uu, uu, uu, uu, uu, uu, uu, uu, uu, uu, uu, uu, uu, uu, uu, uu, uu, uu, uu, uu, uu, uu, uu] [(ai 22 (dg m), 35), (ai 22 (dg n), 35), (ai 22 (fun _ => 0), 35), (ai 44 (fun _ => 0), 95)] [(ai 22 (dg m), 35), (ai 22 (dg n), 35), (ai 22 (fun _ => 0), 35), (ai 44 (fun _ => 0), 95)] [#[], #[], #[], #[]] [nn] (by kernel_rfl) (by kernel_rfl) (by kernel_rfl) (by kernel_rfl) (by kernel_rfl) (by kernel_rfl) (by kernel_rfl) (by kernel_rfl) ?_ ?_
  · refine ok_cons (ok_mv (Or.inr rfl) (by kernel_rfl) rfl (by kernel_rfl) (by kernel_rfl)) ?_
    exact ok_nil
  clear h; intro β a w h
  refine sym_then ?_
  refine blk_in ?_
  replace h := St.setm h 3 (c := ai 44 (fun _ => 0)) (c' := ai 44 (tmF m n 0)) (t := 95) (m' := [(ai 22 (dg m), 35), (ai 22 (dg n), 35), (ai 22 (fun _ => 0), 35), (ai 44 (tmF m n 0), 95)]) rfl (by kernel_rfl) (by kernel_rfl)
  refine loop_up 22 (fun i a w => ∃ (x7 x8 x9 x10 x11 x12 x13 x14 x15 x16 x17 x18 x19 x20 x21 x22 x23 x24 x25 x26 x27 x28 x29 x30 x31 x32 : SV) (β : Nat → Nat), St W0 [.inl (.agg (ai 22 (dg m))), .inl (.agg (ai 22 (dg n))), .inr (0, 0), .inr (1, 0), .inr (2, 0), .inr (3, 0), .inl (.int .i64 ((i : Nat) : Int)), x7, x8, x9, x10, x11, x12, x13, x14, x15, x16, x17, x18, x19, x20, x21, x22, x23, x24, x25, x26, x27, x28, x29, x30, x31, x32, uu, uu] [(ai 22 (dg m), 35), (ai 22 (dg n), 35), (ai 22 (fun _ => 0), 35), (ai 44 (tmF m n i), 95)] β a w) ⟨_, _, _, _, _, _, _, _, _, _, _, _, _, _, _, _, _, _, _, _, _, _, _, _, _, _, β, h⟩ ?_
  clear h; rintro i a w hki ⟨x7, x8, x9, x10, x11, x12, x13, x14, x15, x16, x17, x18, x19, x20, x21, x22, x23, x24, x25, x26, x27, x28, x29, x30, x31, x32, β, h⟩
  rcases Nat.lt_or_ge i 22 with hlti | hgei
  · refine sym_seq ?_
    refine sym_seq ?_
    refine St.region h [.inl (.agg (ai 22 (dg m))), .inl (.agg (ai 22 (dg n))), .inr (0, 0), .inr (1, 0), .inr (2, 0), .inr (3, 0), .inl (.int .i64 ((i : Nat) : Int)), x7, .inl (.int .i64 ((i : Nat) : Int)), .inl (.bool true), x10, x11, x12, x13, x14, x15, x16, x17, x18, x19, x20, x21, x22, x23, x24, x25, x26, x27, x28, x29, x30, x31, x32, uu, uu] [(ai 22 (dg m), 35), (ai 22 (dg n), 35), (ai 22 (fun _ => 0), 35), (ai 44 (tmF m n i), 95)] [(ai 22 (dg m), 35), (ai 22 (dg n), 35), (ai 22 (fun _ => 0), 35), (ai 44 (tmF m n i), 95)] [#[], #[], #[], #[]] [nn, nn] (by kernel_rfl) (by kernel_rfl) (by kernel_rfl) (by kernel_rfl) (by kernel_rfl) (by kernel_rfl) (by kernel_rfl) (by kernel_rfl) ?_ ?_
    · refine ok_cons (ok_mv (Or.inl rfl) (by kernel_rfl) rfl (by kernel_rfl) (by kernel_rfl)) ?_
      refine ok_cons (ok_bin (x1 := .int .i64 ((i : Nat) : Int)) (u1 := .int .i64 ((22 : Nat) : Int)) (v := .bool true) (lt_i (m := ((i : Nat) : Int)) (n := ((22 : Nat) : Int)) (decide_eq_true (by omega))) rfl (by kernel_rfl) rfl (by kernel_rfl) (by kernel_rfl) (by kernel_rfl) (by kernel_rfl) (by kernel_rfl)) ?_
      exact ok_nil
    clear h; intro β a w h
    refine sym_then ?_
    refine sym_cond_t h (by kernel_rfl) (by kernel_rfl) ?_
    refine wp_skip ?_
    refine sym_then ?_
    refine sym_seq ?_
    refine blk_in ?_
    refine sym_seq ?_
    refine St.region h [.inl (.agg (ai 22 (dg m))), .inl (.agg (ai 22 (dg n))), .inr (0, 0), .inr (1, 0), .inr (2, 0), .inr (3, 0), .inl (.int .i64 ((i : Nat) : Int)), .inl (.int .i64 ((0 : Nat) : Int)), .inl (.int .i64 ((i : Nat) : Int)), .inl (.bool true), x10, x11, x12, x13, x14, x15, x16, x17, x18, x19, x20, x21, x22, x23, x24, x25, x26, x27, x28, x29, x30, x31, x32, uu, uu] [(ai 22 (dg m), 35), (ai 22 (dg n), 35), (ai 22 (fun _ => 0), 35), (ai 44 (tmF m n i), 95)] [(ai 22 (dg m), 35), (ai 22 (dg n), 35), (ai 22 (fun _ => 0), 35), (ai 44 (tmF m n i), 95)] [#[], #[], #[], #[]] [nn] (by kernel_rfl) (by kernel_rfl) (by kernel_rfl) (by kernel_rfl) (by kernel_rfl) (by kernel_rfl) (by kernel_rfl) (by kernel_rfl) ?_ ?_
    · refine ok_cons (ok_mv (Or.inr rfl) (by kernel_rfl) rfl (by kernel_rfl) (by kernel_rfl)) ?_
      exact ok_nil
    clear h; intro β a w h
    refine sym_then ?_
    refine blk_in ?_
    replace h := St.setm h 3 (c := ai 44 (tmF m n i)) (c' := ai 44 (roF (tmF m n i) i (dg m i) n 0)) (t := 95) (m' := [(ai 22 (dg m), 35), (ai 22 (dg n), 35), (ai 22 (fun _ => 0), 35), (ai 44 (roF (tmF m n i) i (dg m i) n 0), 95)]) (roF_zero _ _ _ _) (by kernel_rfl) (by kernel_rfl)
    refine loop_up 22 (fun k a w => ∃ (x12 x13 x14 x15 x16 x17 x18 x19 x20 x21 x22 x23 x24 x25 x26 x27 x28 x29 x30 x31 x32 : SV) (β : Nat → Nat), St W0 [.inl (.agg (ai 22 (dg m))), .inl (.agg (ai 22 (dg n))), .inr (0, 0), .inr (1, 0), .inr (2, 0), .inr (3, 0), .inl (.int .i64 ((i : Nat) : Int)), .inl (.int .i64 ((k : Nat) : Int)), .inl (.int .i64 ((i : Nat) : Int)), .inl (.bool true), x10, x11, x12, x13, x14, x15, x16, x17, x18, x19, x20, x21, x22, x23, x24, x25, x26, x27, x28, x29, x30, x31, x32, uu, uu] [(ai 22 (dg m), 35), (ai 22 (dg n), 35), (ai 22 (fun _ => 0), 35), (ai 44 (roF (tmF m n i) i (dg m i) n k), 95)] β a w) ⟨_, _, _, _, _, _, _, _, _, _, _, _, _, _, _, _, _, _, _, _, _, β, h⟩ ?_
    clear h; rintro k a w hkk ⟨x12, x13, x14, x15, x16, x17, x18, x19, x20, x21, x22, x23, x24, x25, x26, x27, x28, x29, x30, x31, x32, β, h⟩
    have g1 := roF_at (tmF m n i) i (dg m i) n k
    have g2 := tmF_fl m n i (i + k) (by omega)
    have g3 := dm_le m n i k
    rcases Nat.lt_or_ge k 22 with hltk | hgek
    · refine sym_seq ?_
      refine sym_seq ?_
      refine St.region h [.inl (.agg (ai 22 (dg m))), .inl (.agg (ai 22 (dg n))), .inr (0, 0), .inr (1, 0), .inr (2, 0), .inr (3, 0), .inl (.int .i64 ((i : Nat) : Int)), .inl (.int .i64 ((k : Nat) : Int)), .inl (.int .i64 ((i : Nat) : Int)), .inl (.bool true), x10, x11, .inl (.int .i64 ((k : Nat) : Int)), .inl (.bool true), x14, x15, x16, x17, x18, x19, x20, x21, x22, x23, x24, x25, x26, x27, x28, x29, x30, x31, x32, uu, uu] [(ai 22 (dg m), 35), (ai 22 (dg n), 35), (ai 22 (fun _ => 0), 35), (ai 44 (roF (tmF m n i) i (dg m i) n k), 95)] [(ai 22 (dg m), 35), (ai 22 (dg n), 35), (ai 22 (fun _ => 0), 35), (ai 44 (roF (tmF m n i) i (dg m i) n k), 95)] [#[], #[], #[], #[]] [nn, nn] (by kernel_rfl) (by kernel_rfl) (by kernel_rfl) (by kernel_rfl) (by kernel_rfl) (by kernel_rfl) (by kernel_rfl) (by kernel_rfl) ?_ ?_
      · refine ok_cons (ok_mv (Or.inl rfl) (by kernel_rfl) rfl (by kernel_rfl) (by kernel_rfl)) ?_
        refine ok_cons (ok_bin (x1 := .int .i64 ((k : Nat) : Int)) (u1 := .int .i64 ((22 : Nat) : Int)) (v := .bool true) (lt_i (m := ((k : Nat) : Int)) (n := ((22 : Nat) : Int)) (decide_eq_true (by omega))) rfl (by kernel_rfl) rfl (by kernel_rfl) (by kernel_rfl) (by kernel_rfl) (by kernel_rfl) (by kernel_rfl)) ?_
        exact ok_nil
      clear h; intro β a w h
      refine sym_then ?_
      refine sym_cond_t h (by kernel_rfl) (by kernel_rfl) ?_
      refine wp_skip ?_
      refine sym_then ?_
      refine sym_seq ?_
      refine blk_in ?_
      refine St.region h [.inl (.agg (ai 22 (dg m))), .inl (.agg (ai 22 (dg n))), .inr (0, 0), .inr (1, 0), .inr (2, 0), .inr (3, 0), .inl (.int .i64 ((i : Nat) : Int)), .inl (.int .i64 ((k : Nat) : Int)), .inl (.int .i64 ((i : Nat) : Int)), .inl (.bool true), x10, x11, .inl (.int .i64 ((k : Nat) : Int)), .inl (.bool true), x14, x15, .inl (.int .i64 ((i : Nat) : Int)), .inl (.int .i64 ((k : Nat) : Int)), .inl (.int .i64 (((i + k) : Nat) : Int)), .inl (.int .i64 ((i : Nat) : Int)), .inl (.int .i64 ((k : Nat) : Int)), .inl (.int .i64 (((i + k) : Nat) : Int)), .inr (3, (i + k)), .inl (.int .i64 ((((roF (tmF m n i) i (dg m i) n k) (i + k)) : Nat) : Int)), .inl (.int .i64 ((i : Nat) : Int)), .inr (0, i), .inl (.int .i64 ((((dg m) i) : Nat) : Int)), .inl (.int .i64 ((k : Nat) : Int)), .inr (1, k), .inl (.int .i64 ((((dg n) k) : Nat) : Int)), .inl (.int .i64 (((((dg m) i) * ((dg n) k)) : Nat) : Int)), .inl (.int .i64 (((((roF (tmF m n i) i (dg m i) n k) (i + k)) + (((dg m) i) * ((dg n) k))) : Nat) : Int)), .inr (3, (i + k)), uu, uu] [(ai 22 (dg m), 35), (ai 22 (dg n), 35), (ai 22 (fun _ => 0), 35), (ai 44 (updN (roF (tmF m n i) i (dg m i) n k) (i + k) (((roF (tmF m n i) i (dg m i) n k) (i + k)) + (((dg m) i) * ((dg n) k)))), 95)] [(ai 22 (dg m), 35), (ai 22 (dg n), 35), (ai 22 (fun _ => 0), 35), (ai 44 (roF (tmF m n i) i (dg m i) n k), 95)] [#[], #[], #[], ai 44 (updN (roF (tmF m n i) i (dg m i) n k) (i + k) (((roF (tmF m n i) i (dg m i) n k) (i + k)) + (((dg m) i) * ((dg n) k))))] [nn, nn, nn, nn, nn, nn, nn, ⟨none, none, some 3, false⟩, nn, nn, ⟨none, none, some 0, false⟩, nn, nn, ⟨none, none, some 1, false⟩, nn, nn, nn, ⟨none, some 3, none, false⟩] (by kernel_rfl) (by kernel_rfl) (by kernel_rfl) (by kernel_rfl) (by kernel_rfl) (by kernel_rfl) (by kernel_rfl) (by kernel_rfl) ?_ ?_
      · refine ok_cons (ok_mv (Or.inl rfl) (by kernel_rfl) rfl (by kernel_rfl) (by kernel_rfl)) ?_
        refine ok_cons (ok_mv (Or.inl rfl) (by kernel_rfl) rfl (by kernel_rfl) (by kernel_rfl)) ?_
        refine ok_cons (ok_bin (x1 := .int .i64 ((i : Nat) : Int)) (u1 := .int .i64 ((k : Nat) : Int)) (v := .int .i64 (((i + k) : Nat) : Int)) (ad_i (m := i) (n := k) (by omega)) rfl (by kernel_rfl) rfl (by kernel_rfl) (by kernel_rfl) (by kernel_rfl) (by kernel_rfl) (by kernel_rfl)) ?_
        refine ok_cons (ok_mv (Or.inl rfl) (by kernel_rfl) rfl (by kernel_rfl) (by kernel_rfl)) ?_
        refine ok_cons (ok_mv (Or.inl rfl) (by kernel_rfl) rfl (by kernel_rfl) (by kernel_rfl)) ?_
        refine ok_cons (ok_bin (x1 := .int .i64 ((i : Nat) : Int)) (u1 := .int .i64 ((k : Nat) : Int)) (v := .int .i64 (((i + k) : Nat) : Int)) (ad_i (m := i) (n := k) (by omega)) rfl (by kernel_rfl) rfl (by kernel_rfl) (by kernel_rfl) (by kernel_rfl) (by kernel_rfl) (by kernel_rfl)) ?_
        refine ok_cons (ok_iaddr (b := 3) (off := 0) (off' := (i + k)) (u := .int .i64 (((i + k) : Nat) : Int)) (ix44 (i := (i + k)) (by omega)) rfl (by kernel_rfl) rfl (by kernel_rfl) (by kernel_rfl) (by kernel_rfl) (by kernel_rfl)) ?_
        refine ok_cons (ok_load (b := 3) (off := (i + k)) (c := ai 44 (roF (tmF m n i) i (dg m i) n k)) (v := .int .i64 ((((roF (tmF m n i) i (dg m i) n k) (i + k)) : Nat) : Int)) (ld_at (n := 44) (F := (roF (tmF m n i) i (dg m i) n k)) (i := (i + k)) (t0 := 95) (by omega)) rfl (by kernel_rfl) rfl (by kernel_rfl) (by kernel_rfl) (by kernel_rfl)) ?_
        refine ok_cons (ok_mv (Or.inl rfl) (by kernel_rfl) rfl (by kernel_rfl) (by kernel_rfl)) ?_
        refine ok_cons (ok_iaddr (b := 0) (off := 0) (off' := i) (u := .int .i64 ((i : Nat) : Int)) (ix22 (i := i) (by omega)) rfl (by kernel_rfl) rfl (by kernel_rfl) (by kernel_rfl) (by kernel_rfl) (by kernel_rfl)) ?_
        refine ok_cons (ok_load (b := 0) (off := i) (c := ai 22 (dg m)) (v := .int .i64 ((((dg m) i) : Nat) : Int)) (ld_at (n := 22) (F := (dg m)) (i := i) (t0 := 35) (by omega)) rfl (by kernel_rfl) rfl (by kernel_rfl) (by kernel_rfl) (by kernel_rfl)) ?_
        refine ok_cons (ok_mv (Or.inl rfl) (by kernel_rfl) rfl (by kernel_rfl) (by kernel_rfl)) ?_
        refine ok_cons (ok_iaddr (b := 1) (off := 0) (off' := k) (u := .int .i64 ((k : Nat) : Int)) (ix22 (i := k) (by omega)) rfl (by kernel_rfl) rfl (by kernel_rfl) (by kernel_rfl) (by kernel_rfl) (by kernel_rfl)) ?_
        refine ok_cons (ok_load (b := 1) (off := k) (c := ai 22 (dg n)) (v := .int .i64 ((((dg n) k) : Nat) : Int)) (ld_at (n := 22) (F := (dg n)) (i := k) (t0 := 35) (by omega)) rfl (by kernel_rfl) rfl (by kernel_rfl) (by kernel_rfl) (by kernel_rfl)) ?_
        refine ok_cons (ok_bin (x1 := .int .i64 ((((dg m) i) : Nat) : Int)) (u1 := .int .i64 ((((dg n) k) : Nat) : Int)) (v := .int .i64 (((((dg m) i) * ((dg n) k)) : Nat) : Int)) (mu_i (m := ((dg m) i)) (n := ((dg n) k)) (by omega)) rfl (by kernel_rfl) rfl (by kernel_rfl) (by kernel_rfl) (by kernel_rfl) (by kernel_rfl) (by kernel_rfl)) ?_
        refine ok_cons (ok_bin (x1 := .int .i64 ((((roF (tmF m n i) i (dg m i) n k) (i + k)) : Nat) : Int)) (u1 := .int .i64 (((((dg m) i) * ((dg n) k)) : Nat) : Int)) (v := .int .i64 (((((roF (tmF m n i) i (dg m i) n k) (i + k)) + (((dg m) i) * ((dg n) k))) : Nat) : Int)) (ad_i (m := ((roF (tmF m n i) i (dg m i) n k) (i + k))) (n := (((dg m) i) * ((dg n) k))) (by omega)) rfl (by kernel_rfl) rfl (by kernel_rfl) (by kernel_rfl) (by kernel_rfl) (by kernel_rfl) (by kernel_rfl)) ?_
        refine ok_cons (ok_iaddr (b := 3) (off := 0) (off' := (i + k)) (u := .int .i64 (((i + k) : Nat) : Int)) (ix44 (i := (i + k)) (by omega)) rfl (by kernel_rfl) rfl (by kernel_rfl) (by kernel_rfl) (by kernel_rfl) (by kernel_rfl)) ?_
        refine ok_cons (ok_store (b := 3) (off := (i + k)) (u := .int .i64 (((((roF (tmF m n i) i (dg m i) n k) (i + k)) + (((dg m) i) * ((dg n) k))) : Nat) : Int)) (c := ai 44 (roF (tmF m n i) i (dg m i) n k)) (n := ai 44 (updN (roF (tmF m n i) i (dg m i) n k) (i + k) (((roF (tmF m n i) i (dg m i) n k) (i + k)) + (((dg m) i) * ((dg n) k))))) (st_at (n := 44) (F := (roF (tmF m n i) i (dg m i) n k)) (i := (i + k)) (v := (((roF (tmF m n i) i (dg m i) n k) (i + k)) + (((dg m) i) * ((dg n) k)))) (t0 := 95) (by omega)) rfl (by kernel_rfl) rfl (by kernel_rfl) (by kernel_rfl) (by kernel_rfl) (by kernel_rfl) (by kernel_rfl)) ?_
        exact ok_nil
      clear h; intro β a w h
      refine blk_norm ?_
      refine sym_then ?_
      refine St.region h [.inl (.agg (ai 22 (dg m))), .inl (.agg (ai 22 (dg n))), .inr (0, 0), .inr (1, 0), .inr (2, 0), .inr (3, 0), .inl (.int .i64 ((i : Nat) : Int)), .inl (.int .i64 (((k + 1) : Nat) : Int)), .inl (.int .i64 ((i : Nat) : Int)), .inl (.bool true), x10, x11, .inl (.int .i64 ((k : Nat) : Int)), .inl (.bool true), .inl (.int .i64 ((k : Nat) : Int)), .inl (.int .i64 (((k + 1) : Nat) : Int)), .inl (.int .i64 ((i : Nat) : Int)), .inl (.int .i64 ((k : Nat) : Int)), .inl (.int .i64 (((i + k) : Nat) : Int)), .inl (.int .i64 ((i : Nat) : Int)), .inl (.int .i64 ((k : Nat) : Int)), .inl (.int .i64 (((i + k) : Nat) : Int)), .inr (3, (i + k)), .inl (.int .i64 ((((roF (tmF m n i) i (dg m i) n k) (i + k)) : Nat) : Int)), .inl (.int .i64 ((i : Nat) : Int)), .inr (0, i), .inl (.int .i64 ((((dg m) i) : Nat) : Int)), .inl (.int .i64 ((k : Nat) : Int)), .inr (1, k), .inl (.int .i64 ((((dg n) k) : Nat) : Int)), .inl (.int .i64 (((((dg m) i) * ((dg n) k)) : Nat) : Int)), .inl (.int .i64 (((((roF (tmF m n i) i (dg m i) n k) (i + k)) + (((dg m) i) * ((dg n) k))) : Nat) : Int)), .inr (3, (i + k)), uu, uu] [(ai 22 (dg m), 35), (ai 22 (dg n), 35), (ai 22 (fun _ => 0), 35), (ai 44 (updN (roF (tmF m n i) i (dg m i) n k) (i + k) (((roF (tmF m n i) i (dg m i) n k) (i + k)) + (((dg m) i) * ((dg n) k)))), 95)] [(ai 22 (dg m), 35), (ai 22 (dg n), 35), (ai 22 (fun _ => 0), 35), (ai 44 (updN (roF (tmF m n i) i (dg m i) n k) (i + k) (((roF (tmF m n i) i (dg m i) n k) (i + k)) + (((dg m) i) * ((dg n) k)))), 95)] [#[], #[], #[], #[]] [⟨none, none, none, true⟩, nn, nn] (by kernel_rfl) (by kernel_rfl) (by kernel_rfl) (by kernel_rfl) (by kernel_rfl) (by kernel_rfl) (by kernel_rfl) (by kernel_rfl) ?_ ?_
      · refine ok_cons (ok_mv0 rfl (by kernel_rfl) rfl (by kernel_rfl) (by kernel_rfl)) ?_
        refine ok_cons (ok_bin (x1 := .int .i64 ((k : Nat) : Int)) (u1 := .int .i64 ((1 : Nat) : Int)) (v := .int .i64 (((k + 1) : Nat) : Int)) (ad_i (m := k) (n := 1) (by omega)) rfl (by kernel_rfl) rfl (by kernel_rfl) (by kernel_rfl) (by kernel_rfl) (by kernel_rfl) (by kernel_rfl)) ?_
        refine ok_cons (ok_mv (Or.inr rfl) (by kernel_rfl) rfl (by kernel_rfl) (by kernel_rfl)) ?_
        exact ok_nil
      clear h; intro β a w h
      replace h := St.setm h 3 (c := ai 44 (updN (roF (tmF m n i) i (dg m i) n k) (i + k) (((roF (tmF m n i) i (dg m i) n k) (i + k)) + (((dg m) i) * ((dg n) k))))) (c' := ai 44 (roF (tmF m n i) i (dg m i) n (k + 1))) (t := 95) (m' := [(ai 22 (dg m), 35), (ai 22 (dg n), 35), (ai 22 (fun _ => 0), 35), (ai 44 (roF (tmF m n i) i (dg m i) n (k + 1)), 95)]) (roF_next _ _ _ _ _) (by kernel_rfl) (by kernel_rfl)
      exact ⟨hltk, _, _, _, _, _, _, _, _, _, _, _, _, _, _, _, _, _, _, _, _, _, _, h⟩
    · obtain rfl : k = 22 := by omega
      refine sym_seq ?_
      refine sym_seq ?_
      refine St.region h [.inl (.agg (ai 22 (dg m))), .inl (.agg (ai 22 (dg n))), .inr (0, 0), .inr (1, 0), .inr (2, 0), .inr (3, 0), .inl (.int .i64 ((i : Nat) : Int)), .inl (.int .i64 ((22 : Nat) : Int)), .inl (.int .i64 ((i : Nat) : Int)), .inl (.bool true), x10, x11, .inl (.int .i64 ((22 : Nat) : Int)), .inl (.bool false), x14, x15, x16, x17, x18, x19, x20, x21, x22, x23, x24, x25, x26, x27, x28, x29, x30, x31, x32, uu, uu] [(ai 22 (dg m), 35), (ai 22 (dg n), 35), (ai 22 (fun _ => 0), 35), (ai 44 (roF (tmF m n i) i (dg m i) n 22), 95)] [(ai 22 (dg m), 35), (ai 22 (dg n), 35), (ai 22 (fun _ => 0), 35), (ai 44 (roF (tmF m n i) i (dg m i) n 22), 95)] [#[], #[], #[], #[]] [nn, nn] (by kernel_rfl) (by kernel_rfl) (by kernel_rfl) (by kernel_rfl) (by kernel_rfl) (by kernel_rfl) (by kernel_rfl) (by kernel_rfl) ?_ ?_
      · refine ok_cons (ok_mv (Or.inl rfl) (by kernel_rfl) rfl (by kernel_rfl) (by kernel_rfl)) ?_
        refine ok_cons (ok_bin (x1 := .int .i64 ((22 : Nat) : Int)) (u1 := .int .i64 ((22 : Nat) : Int)) (v := .bool false) (lt_i (m := ((22 : Nat) : Int)) (n := ((22 : Nat) : Int)) (decide_eq_false (by omega))) rfl (by kernel_rfl) rfl (by kernel_rfl) (by kernel_rfl) (by kernel_rfl) (by kernel_rfl) (by kernel_rfl)) ?_
        exact ok_nil
      clear h; intro β a w h
      refine sym_then ?_
      refine sym_cond_f h (by kernel_rfl) (by kernel_rfl) ?_
      refine wp_exit ?_
      refine then_exit ?_
      refine then_exit ?_
      refine blk_exit ?_
      refine blk_norm ?_
      refine sym_then ?_
      refine St.region h [.inl (.agg (ai 22 (dg m))), .inl (.agg (ai 22 (dg n))), .inr (0, 0), .inr (1, 0), .inr (2, 0), .inr (3, 0), .inl (.int .i64 (((i + 1) : Nat) : Int)), .inl (.int .i64 ((22 : Nat) : Int)), .inl (.int .i64 ((i : Nat) : Int)), .inl (.bool true), .inl (.int .i64 ((i : Nat) : Int)), .inl (.int .i64 (((i + 1) : Nat) : Int)), .inl (.int .i64 ((22 : Nat) : Int)), .inl (.bool false), x14, x15, x16, x17, x18, x19, x20, x21, x22, x23, x24, x25, x26, x27, x28, x29, x30, x31, x32, uu, uu] [(ai 22 (dg m), 35), (ai 22 (dg n), 35), (ai 22 (fun _ => 0), 35), (ai 44 (roF (tmF m n i) i (dg m i) n 22), 95)] [(ai 22 (dg m), 35), (ai 22 (dg n), 35), (ai 22 (fun _ => 0), 35), (ai 44 (roF (tmF m n i) i (dg m i) n 22), 95)] [#[], #[], #[], #[]] [⟨none, none, none, true⟩, nn, nn] (by kernel_rfl) (by kernel_rfl) (by kernel_rfl) (by kernel_rfl) (by kernel_rfl) (by kernel_rfl) (by kernel_rfl) (by kernel_rfl) ?_ ?_
      · refine ok_cons (ok_mv0 rfl (by kernel_rfl) rfl (by kernel_rfl) (by kernel_rfl)) ?_
        refine ok_cons (ok_bin (x1 := .int .i64 ((i : Nat) : Int)) (u1 := .int .i64 ((1 : Nat) : Int)) (v := .int .i64 (((i + 1) : Nat) : Int)) (ad_i (m := i) (n := 1) (by omega)) rfl (by kernel_rfl) rfl (by kernel_rfl) (by kernel_rfl) (by kernel_rfl) (by kernel_rfl) (by kernel_rfl)) ?_
        refine ok_cons (ok_mv (Or.inr rfl) (by kernel_rfl) rfl (by kernel_rfl) (by kernel_rfl)) ?_
        exact ok_nil
      clear h; intro β a w h
      replace h := St.setm h 3 (c := ai 44 (roF (tmF m n i) i (dg m i) n 22)) (c' := ai 44 (tmF m n (i + 1))) (t := 95) (m' := [(ai 22 (dg m), 35), (ai 22 (dg n), 35), (ai 22 (fun _ => 0), 35), (ai 44 (tmF m n (i + 1)), 95)]) rfl (by kernel_rfl) (by kernel_rfl)
      exact ⟨hlti, _, _, _, _, _, _, _, _, _, _, _, _, _, _, _, _, _, _, _, _, _, _, _, _, _, _, _, h⟩
  · obtain rfl : i = 22 := by omega
    refine sym_seq ?_
    refine sym_seq ?_
    refine St.region h [.inl (.agg (ai 22 (dg m))), .inl (.agg (ai 22 (dg n))), .inr (0, 0), .inr (1, 0), .inr (2, 0), .inr (3, 0), .inl (.int .i64 ((22 : Nat) : Int)), x7, .inl (.int .i64 ((22 : Nat) : Int)), .inl (.bool false), x10, x11, x12, x13, x14, x15, x16, x17, x18, x19, x20, x21, x22, x23, x24, x25, x26, x27, x28, x29, x30, x31, x32, uu, uu] [(ai 22 (dg m), 35), (ai 22 (dg n), 35), (ai 22 (fun _ => 0), 35), (ai 44 (tmF m n 22), 95)] [(ai 22 (dg m), 35), (ai 22 (dg n), 35), (ai 22 (fun _ => 0), 35), (ai 44 (tmF m n 22), 95)] [#[], #[], #[], #[]] [nn, nn] (by kernel_rfl) (by kernel_rfl) (by kernel_rfl) (by kernel_rfl) (by kernel_rfl) (by kernel_rfl) (by kernel_rfl) (by kernel_rfl) ?_ ?_
    · refine ok_cons (ok_mv (Or.inl rfl) (by kernel_rfl) rfl (by kernel_rfl) (by kernel_rfl)) ?_
      refine ok_cons (ok_bin (x1 := .int .i64 ((22 : Nat) : Int)) (u1 := .int .i64 ((22 : Nat) : Int)) (v := .bool false) (lt_i (m := ((22 : Nat) : Int)) (n := ((22 : Nat) : Int)) (decide_eq_false (by omega))) rfl (by kernel_rfl) rfl (by kernel_rfl) (by kernel_rfl) (by kernel_rfl) (by kernel_rfl) (by kernel_rfl)) ?_
      exact ok_nil
    clear h; intro β a w h
    refine sym_then ?_
    refine sym_cond_f h (by kernel_rfl) (by kernel_rfl) ?_
    refine wp_exit ?_
    refine then_exit ?_
    refine then_exit ?_
    refine blk_exit ?_
    refine sym_then ?_
    refine sym_seq ?_
    refine St.region h [.inl (.agg (ai 22 (dg m))), .inl (.agg (ai 22 (dg n))), .inr (0, 0), .inr (1, 0), .inr (2, 0), .inr (3, 0), .inl (.int .i64 ((22 : Nat) : Int)), x7, .inl (.int .i64 ((22 : Nat) : Int)), .inl (.bool false), x10, x11, x12, x13, x14, x15, x16, x17, x18, x19, x20, x21, x22, x23, x24, x25, x26, x27, x28, x29, x30, x31, x32, .inl (.agg (ai 44 (tmF m n 22))), .inl (.agg (ai 22 (dg (m * n % pp))))] [(ai 22 (dg m), 35), (ai 22 (dg n), 35), (ai 22 (dg (m * n % pp)), 35), (ai 44 (tmF m n 22), 95)] [(ai 22 (dg m), 35), (ai 22 (dg n), 35), (ai 22 (fun _ => 0), 35), (ai 44 (tmF m n 22), 95)] [#[], #[], ai 22 (dg (m * n % pp)), #[]] [⟨none, none, some 3, false⟩, nn, ⟨none, some 2, none, false⟩] (by kernel_rfl) (by kernel_rfl) (by kernel_rfl) (by kernel_rfl) (by kernel_rfl) (by kernel_rfl) (by kernel_rfl) (by kernel_rfl) ?_ ?_
    · refine ok_cons (ok_load (b := 3) (off := 0) (c := ai 44 (tmF m n 22)) (v := .agg (ai 44 (tmF m n 22))) (ld44 (F := (tmF m n 22)) 95) rfl (by kernel_rfl) rfl (by kernel_rfl) (by kernel_rfl) (by kernel_rfl)) ?_
      refine ok_cons (ok_call (vs := #[.agg (ai 44 (tmF m n 22))]) (R := .agg (ai 22 (dg (m * n % pp)))) (fun w => least_r (fun j => tmF_fl m n 22 j (by omega)) (tmF_pv hm hn) (tmF_big hm hn) w) rfl (by kernel_rfl) rfl (by kernel_rfl) (by kernel_rfl) (by kernel_rfl) (fun w => by kernel_rfl)) ?_
      refine ok_cons (ok_store (b := 2) (off := 0) (u := .agg (ai 22 (dg (m * n % pp)))) (c := ai 22 (fun _ => 0)) (n := ai 22 (dg (m * n % pp))) (st22 (F := (dg (m * n % pp))) (c := ai 22 (fun _ => 0)) 35 (ai_size _ _)) rfl (by kernel_rfl) rfl (by kernel_rfl) (by kernel_rfl) (by kernel_rfl) (by kernel_rfl) (by kernel_rfl)) ?_
      exact ok_nil
    clear h; intro β a w h
    refine sym_then ?_
    refine wp_ret ?_
    exact sym_retc (b := 2) (t0 := 35) (c := ai 22 (dg (m * n % pp))) h Try.results38 (by kernel_rfl) (by kernel_rfl) (by kernel_rfl) Try.underlying35 rfl (by rw [ai_size]; kernel_rfl) (fun hb => ⟨rfl, hb⟩)
end Go.Proofs.Ytgiemldmphbolaa

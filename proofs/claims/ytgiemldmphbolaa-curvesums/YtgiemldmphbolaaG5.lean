/- Ref6b, Ref6c, Ref7, Root2, laid together. -/
import Derived.Test.YtgiemldmphbolaaG4
import Derived.Test.YtgiemldmphbolaaG1
namespace Go.Proofs.Ytgiemldmphbolaa
open Go.RowKit
theorem haF_lastk {n k : Nat} (hn : n < 4096 ^ 22) (h1 : 21 ≤ k) (h2 : k < 22) : ai 22 (updN (haF n k) k (haF n k k / 2)) = ai 22 (haF n (k + 1)) := by
  obtain rfl : k = 21 := by omega
  exact haF_last hn
set_option maxHeartbeats 4000000 in
theorem half_r {n : Nat} (hn : n < 4096 ^ 22) (W0 : World) : Calls Try.prog 70 #[.agg (ai 22 (dg n))] W0 fun e w' => e = .returned (.agg (ai 22 (dg (n / 2)))) ∧ Below W0.heap.size W0 w' := by
  rw [← haF_end]
  refine sym_enter Try.func70 Try.ntmps70 rfl [.inl (.agg (ai 22 (dg n))), uu, uu, uu, uu, uu, uu, uu, uu, uu, uu, uu, uu, uu, uu, uu, uu, uu, uu, uu, uu, uu, uu, uu, uu, uu, uu] (by kernel_rfl) (by kernel_rfl) ?_
  intro β a h
  refine sym_seq ?_
  refine St.region h [.inl (.agg (ai 22 (dg n))), .inr (0, 0), .inr (1, 0), uu, uu, uu, uu, uu, uu, uu, uu, uu, uu, uu, uu, uu, uu, uu, uu, uu, uu, uu, uu, uu, uu, uu, uu] [(ai 22 (dg n), 35), (ai 22 (fun _ => 0), 35)] [(ai 22 (dg n), 35), (ai 22 (fun _ => 0), 35)] [#[], #[]] [⟨some 0, none, none, false⟩, ⟨some 1, none, none, false⟩] (by kernel_rfl) (by kernel_rfl) (by kernel_rfl) (by kernel_rfl) (by kernel_rfl) (by kernel_rfl) (by kernel_rfl) (by kernel_rfl) ?_ ?_
  · refine ok_cons (ok_box (b := 0) (u := .agg (ai 22 (dg n))) (bx22 (F := (dg n))) rfl (by kernel_rfl) rfl (by kernel_rfl) (by kernel_rfl) (by kernel_rfl) (by kernel_rfl)) ?_
    refine ok_cons (ok_alloc (b := 1) al22 rfl (by kernel_rfl) rfl (by kernel_rfl) (by kernel_rfl)) ?_
    exact ok_nil
  clear h; intro β a w h
  refine sym_then ?_
  refine sym_seq ?_
  refine sym_seq ?_
  refine St.region h [.inl (.agg (ai 22 (dg n))), .inr (0, 0), .inr (1, 0), .inl (.int .i64 ((0 : Nat) : Int)), uu, uu, uu, uu, uu, uu, uu, uu, uu, uu, uu, uu, uu, uu, uu, uu, uu, uu, uu, uu, uu, uu, uu] [(ai 22 (dg n), 35), (ai 22 (fun _ => 0), 35)] [(ai 22 (dg n), 35), (ai 22 (fun _ => 0), 35)] [#[], #[]] [nn] (by kernel_rfl) (by kernel_rfl) (by kernel_rfl) (by kernel_rfl) (by kernel_rfl) (by kernel_rfl) (by kernel_rfl) (by kernel_rfl) ?_ ?_
  · refine ok_cons (ok_mv (Or.inr rfl) (by kernel_rfl) rfl (by kernel_rfl) (by kernel_rfl)) ?_
    exact ok_nil
  clear h; intro β a w h
  refine sym_then ?_
  refine blk_in ?_
  replace h := St.setm h 0 (c := ai 22 (dg n)) (c' := ai 22 (haF n 0)) (t := 35) (m' := [(ai 22 (haF n 0), 35), (ai 22 (fun _ => 0), 35)]) (haF_zero n) (by kernel_rfl) (by kernel_rfl)
  refine loop_up 22 (fun k a w => ∃ (x4 x5 x6 x7 x8 x9 x10 x11 x12 x13 x14 x15 x16 x17 x18 x19 x20 x21 x22 x23 x24 x25 : SV) (β : Nat → Nat), St W0 [.inl (.agg (ai 22 (dg n))), .inr (0, 0), .inr (1, 0), .inl (.int .i64 ((k : Nat) : Int)), x4, x5, x6, x7, x8, x9, x10, x11, x12, x13, x14, x15, x16, x17, x18, x19, x20, x21, x22, x23, x24, x25, uu] [(ai 22 (haF n k), 35), (ai 22 (fun _ => 0), 35)] β a w) ⟨_, _, _, _, _, _, _, _, _, _, _, _, _, _, _, _, _, _, _, _, _, _, β, h⟩ ?_
  clear h; rintro k a w hkk ⟨x4, x5, x6, x7, x8, x9, x10, x11, x12, x13, x14, x15, x16, x17, x18, x19, x20, x21, x22, x23, x24, x25, β, h⟩
  have g1 := haF_at n k
  have g2 := dg_lt n k
  have g3 := haF_nx n k
  rcases Nat.lt_or_ge k 22 with hltk | hgek
  · rcases Nat.lt_or_ge k 21 with hk1 | hk2
    · refine sym_seq ?_
      refine sym_seq ?_
      refine St.region h [.inl (.agg (ai 22 (dg n))), .inr (0, 0), .inr (1, 0), .inl (.int .i64 ((k : Nat) : Int)), x4, .inl (.int .i64 ((k : Nat) : Int)), .inl (.bool true), x7, x8, x9, x10, x11, x12, x13, x14, x15, x16, x17, x18, x19, x20, x21, x22, x23, x24, x25, uu] [(ai 22 (haF n k), 35), (ai 22 (fun _ => 0), 35)] [(ai 22 (haF n k), 35), (ai 22 (fun _ => 0), 35)] [#[], #[]] [nn, nn] (by kernel_rfl) (by kernel_rfl) (by kernel_rfl) (by kernel_rfl) (by kernel_rfl) (by kernel_rfl) (by kernel_rfl) (by kernel_rfl) ?_ ?_
      · refine ok_cons (ok_mv (Or.inl rfl) (by kernel_rfl) rfl (by kernel_rfl) (by kernel_rfl)) ?_
        refine ok_cons (ok_bin (x1 := .int .i64 ((k : Nat) : Int)) (u1 := .int .i64 ((22 : Nat) : Int)) (v := .bool true) (lt_i (m := ((k : Nat) : Int)) (n := ((22 : Nat) : Int)) (decide_eq_true (by omega))) rfl (by kernel_rfl) rfl (by kernel_rfl) (by kernel_rfl) (by kernel_rfl) (by kernel_rfl) (by kernel_rfl)) ?_
        exact ok_nil
      clear h; intro β a w h
      refine sym_then ?_
      refine sym_cond_t h (by kernel_rfl) (by kernel_rfl) ?_
      refine wp_skip ?_
      refine sym_then ?_
      refine sym_seq ?_
      refine blk_in ?_
      refine sym_seq ?_
      refine St.region h [.inl (.agg (ai 22 (dg n))), .inr (0, 0), .inr (1, 0), .inl (.int .i64 ((k : Nat) : Int)), .inl (.int .i64 ((((haF n k) k) : Nat) : Int)), .inl (.int .i64 ((k : Nat) : Int)), .inl (.bool true), x7, x8, .inl (.int .i64 ((k : Nat) : Int)), .inr (0, k), .inl (.int .i64 ((((haF n k) k) : Nat) : Int)), x12, x13, x14, x15, x16, x17, x18, x19, x20, x21, x22, x23, x24, x25, uu] [(ai 22 (haF n k), 35), (ai 22 (fun _ => 0), 35)] [(ai 22 (haF n k), 35), (ai 22 (fun _ => 0), 35)] [#[], #[]] [nn, nn, ⟨none, none, some 0, false⟩, nn] (by kernel_rfl) (by kernel_rfl) (by kernel_rfl) (by kernel_rfl) (by kernel_rfl) (by kernel_rfl) (by kernel_rfl) (by kernel_rfl) ?_ ?_
      · refine ok_cons (ok_mv (Or.inl rfl) (by kernel_rfl) rfl (by kernel_rfl) (by kernel_rfl)) ?_
        refine ok_cons (ok_iaddr (b := 0) (off := 0) (off' := k) (u := .int .i64 ((k : Nat) : Int)) (ix22 (i := k) (by omega)) rfl (by kernel_rfl) rfl (by kernel_rfl) (by kernel_rfl) (by kernel_rfl) (by kernel_rfl)) ?_
        refine ok_cons (ok_load (b := 0) (off := k) (c := ai 22 (haF n k)) (v := .int .i64 ((((haF n k) k) : Nat) : Int)) (ld_at (n := 22) (F := (haF n k)) (i := k) (t0 := 35) (by omega)) rfl (by kernel_rfl) rfl (by kernel_rfl) (by kernel_rfl) (by kernel_rfl)) ?_
        refine ok_cons (ok_mv (Or.inr rfl) (by kernel_rfl) rfl (by kernel_rfl) (by kernel_rfl)) ?_
        exact ok_nil
      clear h; intro β a w h
      refine sym_then ?_
      refine sym_seq ?_
      refine sym_seq ?_
      refine St.region h [.inl (.agg (ai 22 (dg n))), .inr (0, 0), .inr (1, 0), .inl (.int .i64 ((k : Nat) : Int)), .inl (.int .i64 ((((haF n k) k) : Nat) : Int)), .inl (.int .i64 ((k : Nat) : Int)), .inl (.bool true), x7, x8, .inl (.int .i64 ((k : Nat) : Int)), .inr (0, k), .inl (.int .i64 ((((haF n k) k) : Nat) : Int)), .inl (.int .i64 ((k : Nat) : Int)), .inl (.bool true), x14, x15, x16, x17, x18, x19, x20, x21, x22, x23, x24, x25, uu] [(ai 22 (haF n k), 35), (ai 22 (fun _ => 0), 35)] [(ai 22 (haF n k), 35), (ai 22 (fun _ => 0), 35)] [#[], #[]] [nn, nn] (by kernel_rfl) (by kernel_rfl) (by kernel_rfl) (by kernel_rfl) (by kernel_rfl) (by kernel_rfl) (by kernel_rfl) (by kernel_rfl) ?_ ?_
      · refine ok_cons (ok_mv (Or.inl rfl) (by kernel_rfl) rfl (by kernel_rfl) (by kernel_rfl)) ?_
        refine ok_cons (ok_bin (x1 := .int .i64 ((k : Nat) : Int)) (u1 := .int .i64 ((21 : Nat) : Int)) (v := .bool true) (lt_i (m := ((k : Nat) : Int)) (n := ((21 : Nat) : Int)) (decide_eq_true (by omega))) rfl (by kernel_rfl) rfl (by kernel_rfl) (by kernel_rfl) (by kernel_rfl) (by kernel_rfl) (by kernel_rfl)) ?_
        exact ok_nil
      clear h; intro β a w h
      refine sym_then ?_
      refine sym_cond_t h (by kernel_rfl) (by kernel_rfl) ?_
      refine St.region h [.inl (.agg (ai 22 (dg n))), .inr (0, 0), .inr (1, 0), .inl (.int .i64 ((k : Nat) : Int)), .inl (.int .i64 (((((haF n k) k) + ((((haF n k) (k + 1)) % 2) * 4096)) : Nat) : Int)), .inl (.int .i64 ((k : Nat) : Int)), .inl (.bool true), x7, x8, .inl (.int .i64 ((k : Nat) : Int)), .inr (0, k), .inl (.int .i64 ((((haF n k) k) : Nat) : Int)), .inl (.int .i64 ((k : Nat) : Int)), .inl (.bool true), .inl (.int .i64 ((((haF n k) k) : Nat) : Int)), .inl (.int .i64 ((k : Nat) : Int)), .inl (.int .i64 (((k + 1) : Nat) : Int)), .inr (0, (k + 1)), .inl (.int .i64 ((((haF n k) (k + 1)) : Nat) : Int)), .inl (.int .i64 (((((haF n k) (k + 1)) % 2) : Nat) : Int)), .inl (.int .i64 ((((((haF n k) (k + 1)) % 2) * 4096) : Nat) : Int)), .inl (.int .i64 (((((haF n k) k) + ((((haF n k) (k + 1)) % 2) * 4096)) : Nat) : Int)), x22, x23, x24, x25, uu] [(ai 22 (haF n k), 35), (ai 22 (fun _ => 0), 35)] [(ai 22 (haF n k), 35), (ai 22 (fun _ => 0), 35)] [#[], #[]] [⟨none, none, none, true⟩, nn, nn, nn, ⟨none, none, some 0, false⟩, nn, nn, nn, nn] (by kernel_rfl) (by kernel_rfl) (by kernel_rfl) (by kernel_rfl) (by kernel_rfl) (by kernel_rfl) (by kernel_rfl) (by kernel_rfl) ?_ ?_
      · refine ok_cons (ok_mv0 rfl (by kernel_rfl) rfl (by kernel_rfl) (by kernel_rfl)) ?_
        refine ok_cons (ok_mv (Or.inl rfl) (by kernel_rfl) rfl (by kernel_rfl) (by kernel_rfl)) ?_
        refine ok_cons (ok_bin (x1 := .int .i64 ((k : Nat) : Int)) (u1 := .int .i64 ((1 : Nat) : Int)) (v := .int .i64 (((k + 1) : Nat) : Int)) (ad_i (m := k) (n := 1) (by omega)) rfl (by kernel_rfl) rfl (by kernel_rfl) (by kernel_rfl) (by kernel_rfl) (by kernel_rfl) (by kernel_rfl)) ?_
        refine ok_cons (ok_iaddr (b := 0) (off := 0) (off' := (k + 1)) (u := .int .i64 (((k + 1) : Nat) : Int)) (ix22 (i := (k + 1)) (by omega)) rfl (by kernel_rfl) rfl (by kernel_rfl) (by kernel_rfl) (by kernel_rfl) (by kernel_rfl)) ?_
        refine ok_cons (ok_load (b := 0) (off := (k + 1)) (c := ai 22 (haF n k)) (v := .int .i64 ((((haF n k) (k + 1)) : Nat) : Int)) (ld_at (n := 22) (F := (haF n k)) (i := (k + 1)) (t0 := 35) (by omega)) rfl (by kernel_rfl) rfl (by kernel_rfl) (by kernel_rfl) (by kernel_rfl)) ?_
        refine ok_cons (ok_bin (x1 := .int .i64 ((((haF n k) (k + 1)) : Nat) : Int)) (u1 := .int .i64 ((2 : Nat) : Int)) (v := .int .i64 (((((haF n k) (k + 1)) % 2) : Nat) : Int)) (re_i (m := ((haF n k) (k + 1))) (n := 2) (by decide)) rfl (by kernel_rfl) rfl (by kernel_rfl) (by kernel_rfl) (by kernel_rfl) (by kernel_rfl) (by kernel_rfl)) ?_
        refine ok_cons (ok_bin (x1 := .int .i64 (((((haF n k) (k + 1)) % 2) : Nat) : Int)) (u1 := .int .i64 ((4096 : Nat) : Int)) (v := .int .i64 ((((((haF n k) (k + 1)) % 2) * 4096) : Nat) : Int)) (mu_i (m := (((haF n k) (k + 1)) % 2)) (n := 4096) (by omega)) rfl (by kernel_rfl) rfl (by kernel_rfl) (by kernel_rfl) (by kernel_rfl) (by kernel_rfl) (by kernel_rfl)) ?_
        refine ok_cons (ok_bin (x1 := .int .i64 ((((haF n k) k) : Nat) : Int)) (u1 := .int .i64 ((((((haF n k) (k + 1)) % 2) * 4096) : Nat) : Int)) (v := .int .i64 (((((haF n k) k) + ((((haF n k) (k + 1)) % 2) * 4096)) : Nat) : Int)) (ad_i (m := ((haF n k) k)) (n := ((((haF n k) (k + 1)) % 2) * 4096)) (by omega)) rfl (by kernel_rfl) rfl (by kernel_rfl) (by kernel_rfl) (by kernel_rfl) (by kernel_rfl) (by kernel_rfl)) ?_
        refine ok_cons (ok_mv (Or.inr rfl) (by kernel_rfl) rfl (by kernel_rfl) (by kernel_rfl)) ?_
        exact ok_nil
      clear h; intro β a w h
      refine sym_then ?_
      refine St.region h [.inl (.agg (ai 22 (dg n))), .inr (0, 0), .inr (1, 0), .inl (.int .i64 ((k : Nat) : Int)), .inl (.int .i64 (((((haF n k) k) + ((((haF n k) (k + 1)) % 2) * 4096)) : Nat) : Int)), .inl (.int .i64 ((k : Nat) : Int)), .inl (.bool true), x7, x8, .inl (.int .i64 ((k : Nat) : Int)), .inr (0, k), .inl (.int .i64 ((((haF n k) k) : Nat) : Int)), .inl (.int .i64 ((k : Nat) : Int)), .inl (.bool true), .inl (.int .i64 ((((haF n k) k) : Nat) : Int)), .inl (.int .i64 ((k : Nat) : Int)), .inl (.int .i64 (((k + 1) : Nat) : Int)), .inr (0, (k + 1)), .inl (.int .i64 ((((haF n k) (k + 1)) : Nat) : Int)), .inl (.int .i64 (((((haF n k) (k + 1)) % 2) : Nat) : Int)), .inl (.int .i64 ((((((haF n k) (k + 1)) % 2) * 4096) : Nat) : Int)), .inl (.int .i64 (((((haF n k) k) + ((((haF n k) (k + 1)) % 2) * 4096)) : Nat) : Int)), .inl (.int .i64 ((k : Nat) : Int)), .inl (.int .i64 (((((haF n k) k) + ((((haF n k) (k + 1)) % 2) * 4096)) : Nat) : Int)), .inl (.int .i64 ((((((haF n k) k) + ((((haF n k) (k + 1)) % 2) * 4096)) / 2) : Nat) : Int)), .inr (0, k), uu] [(ai 22 (updN (haF n k) k ((((haF n k) k) + ((((haF n k) (k + 1)) % 2) * 4096)) / 2)), 35), (ai 22 (fun _ => 0), 35)] [(ai 22 (haF n k), 35), (ai 22 (fun _ => 0), 35)] [ai 22 (updN (haF n k) k ((((haF n k) k) + ((((haF n k) (k + 1)) % 2) * 4096)) / 2)), #[]] [nn, nn, nn, nn, ⟨none, some 0, none, false⟩] (by kernel_rfl) (by kernel_rfl) (by kernel_rfl) (by kernel_rfl) (by kernel_rfl) (by kernel_rfl) (by kernel_rfl) (by kernel_rfl) ?_ ?_
      · refine ok_cons (ok_mv (Or.inl rfl) (by kernel_rfl) rfl (by kernel_rfl) (by kernel_rfl)) ?_
        refine ok_cons (ok_mv (Or.inl rfl) (by kernel_rfl) rfl (by kernel_rfl) (by kernel_rfl)) ?_
        refine ok_cons (ok_bin (x1 := .int .i64 (((((haF n k) k) + ((((haF n k) (k + 1)) % 2) * 4096)) : Nat) : Int)) (u1 := .int .i64 ((2 : Nat) : Int)) (v := .int .i64 ((((((haF n k) k) + ((((haF n k) (k + 1)) % 2) * 4096)) / 2) : Nat) : Int)) (qu_i (m := (((haF n k) k) + ((((haF n k) (k + 1)) % 2) * 4096))) (n := 2) (by decide) (by omega)) rfl (by kernel_rfl) rfl (by kernel_rfl) (by kernel_rfl) (by kernel_rfl) (by kernel_rfl) (by kernel_rfl)) ?_
        refine ok_cons (ok_iaddr (b := 0) (off := 0) (off' := k) (u := .int .i64 ((k : Nat) : Int)) (ix22 (i := k) (by omega)) rfl (by kernel_rfl) rfl (by kernel_rfl) (by kernel_rfl) (by kernel_rfl) (by kernel_rfl)) ?_
        refine ok_cons (ok_store (b := 0) (off := k) (u := .int .i64 ((((((haF n k) k) + ((((haF n k) (k + 1)) % 2) * 4096)) / 2) : Nat) : Int)) (c := ai 22 (haF n k)) (n := ai 22 (updN (haF n k) k ((((haF n k) k) + ((((haF n k) (k + 1)) % 2) * 4096)) / 2))) (st_at (n := 22) (F := (haF n k)) (i := k) (v := ((((haF n k) k) + ((((haF n k) (k + 1)) % 2) * 4096)) / 2)) (t0 := 35) (by omega)) rfl (by kernel_rfl) rfl (by kernel_rfl) (by kernel_rfl) (by kernel_rfl) (by kernel_rfl) (by kernel_rfl)) ?_
        exact ok_nil
      clear h; intro β a w h
      refine blk_norm ?_
      refine sym_then ?_
      refine St.region h [.inl (.agg (ai 22 (dg n))), .inr (0, 0), .inr (1, 0), .inl (.int .i64 (((k + 1) : Nat) : Int)), .inl (.int .i64 (((((haF n k) k) + ((((haF n k) (k + 1)) % 2) * 4096)) : Nat) : Int)), .inl (.int .i64 ((k : Nat) : Int)), .inl (.bool true), .inl (.int .i64 ((k : Nat) : Int)), .inl (.int .i64 (((k + 1) : Nat) : Int)), .inl (.int .i64 ((k : Nat) : Int)), .inr (0, k), .inl (.int .i64 ((((haF n k) k) : Nat) : Int)), .inl (.int .i64 ((k : Nat) : Int)), .inl (.bool true), .inl (.int .i64 ((((haF n k) k) : Nat) : Int)), .inl (.int .i64 ((k : Nat) : Int)), .inl (.int .i64 (((k + 1) : Nat) : Int)), .inr (0, (k + 1)), .inl (.int .i64 ((((haF n k) (k + 1)) : Nat) : Int)), .inl (.int .i64 (((((haF n k) (k + 1)) % 2) : Nat) : Int)), .inl (.int .i64 ((((((haF n k) (k + 1)) % 2) * 4096) : Nat) : Int)), .inl (.int .i64 (((((haF n k) k) + ((((haF n k) (k + 1)) % 2) * 4096)) : Nat) : Int)), .inl (.int .i64 ((k : Nat) : Int)), .inl (.int .i64 (((((haF n k) k) + ((((haF n k) (k + 1)) % 2) * 4096)) : Nat) : Int)), .inl (.int .i64 ((((((haF n k) k) + ((((haF n k) (k + 1)) % 2) * 4096)) / 2) : Nat) : Int)), .inr (0, k), uu] [(ai 22 (updN (haF n k) k ((((haF n k) k) + ((((haF n k) (k + 1)) % 2) * 4096)) / 2)), 35), (ai 22 (fun _ => 0), 35)] [(ai 22 (updN (haF n k) k ((((haF n k) k) + ((((haF n k) (k + 1)) % 2) * 4096)) / 2)), 35), (ai 22 (fun _ => 0), 35)] [#[], #[]] [⟨none, none, none, true⟩, nn, nn] (by kernel_rfl) (by kernel_rfl) (by kernel_rfl) (by kernel_rfl) (by kernel_rfl) (by kernel_rfl) (by kernel_rfl) (by kernel_rfl) ?_ ?_
      · refine ok_cons (ok_mv0 rfl (by kernel_rfl) rfl (by kernel_rfl) (by kernel_rfl)) ?_
        refine ok_cons (ok_bin (x1 := .int .i64 ((k : Nat) : Int)) (u1 := .int .i64 ((1 : Nat) : Int)) (v := .int .i64 (((k + 1) : Nat) : Int)) (ad_i (m := k) (n := 1) (by omega)) rfl (by kernel_rfl) rfl (by kernel_rfl) (by kernel_rfl) (by kernel_rfl) (by kernel_rfl) (by kernel_rfl)) ?_
        refine ok_cons (ok_mv (Or.inr rfl) (by kernel_rfl) rfl (by kernel_rfl) (by kernel_rfl)) ?_
        exact ok_nil
      clear h; intro β a w h
      replace h := St.setm h 0 (c := ai 22 (updN (haF n k) k ((((haF n k) k) + ((((haF n k) (k + 1)) % 2) * 4096)) / 2))) (c' := ai 22 (haF n (k + 1))) (t := 35) (m' := [(ai 22 (haF n (k + 1)), 35), (ai 22 (fun _ => 0), 35)]) (haF_next n k) (by kernel_rfl) (by kernel_rfl)
      exact ⟨hltk, _, _, _, _, _, _, _, _, _, _, _, _, _, _, _, _, _, _, _, _, _, _, _, h⟩
    · refine sym_seq ?_
      refine sym_seq ?_
      refine St.region h [.inl (.agg (ai 22 (dg n))), .inr (0, 0), .inr (1, 0), .inl (.int .i64 ((k : Nat) : Int)), x4, .inl (.int .i64 ((k : Nat) : Int)), .inl (.bool true), x7, x8, x9, x10, x11, x12, x13, x14, x15, x16, x17, x18, x19, x20, x21, x22, x23, x24, x25, uu] [(ai 22 (haF n k), 35), (ai 22 (fun _ => 0), 35)] [(ai 22 (haF n k), 35), (ai 22 (fun _ => 0), 35)] [#[], #[]] [nn, nn] (by kernel_rfl) (by kernel_rfl) (by kernel_rfl) (by kernel_rfl) (by kernel_rfl) (by kernel_rfl) (by kernel_rfl) (by kernel_rfl) ?_ ?_
      · refine ok_cons (ok_mv (Or.inl rfl) (by kernel_rfl) rfl (by kernel_rfl) (by kernel_rfl)) ?_
        refine ok_cons (ok_bin (x1 := .int .i64 ((k : Nat) : Int)) (u1 := .int .i64 ((22 : Nat) : Int)) (v := .bool true) (lt_i (m := ((k : Nat) : Int)) (n := ((22 : Nat) : Int)) (decide_eq_true (by omega))) rfl (by kernel_rfl) rfl (by kernel_rfl) (by kernel_rfl) (by kernel_rfl) (by kernel_rfl) (by kernel_rfl)) ?_
        exact ok_nil
      clear h; intro β a w h
      refine sym_then ?_
      refine sym_cond_t h (by kernel_rfl) (by kernel_rfl) ?_
      refine wp_skip ?_
      refine sym_then ?_
      refine sym_seq ?_
      refine blk_in ?_
      refine sym_seq ?_
      refine St.region h [.inl (.agg (ai 22 (dg n))), .inr (0, 0), .inr (1, 0), .inl (.int .i64 ((k : Nat) : Int)), .inl (.int .i64 ((((haF n k) k) : Nat) : Int)), .inl (.int .i64 ((k : Nat) : Int)), .inl (.bool true), x7, x8, .inl (.int .i64 ((k : Nat) : Int)), .inr (0, k), .inl (.int .i64 ((((haF n k) k) : Nat) : Int)), x12, x13, x14, x15, x16, x17, x18, x19, x20, x21, x22, x23, x24, x25, uu] [(ai 22 (haF n k), 35), (ai 22 (fun _ => 0), 35)] [(ai 22 (haF n k), 35), (ai 22 (fun _ => 0), 35)] [#[], #[]] [nn, nn, ⟨none, none, some 0, false⟩, nn] (by kernel_rfl) (by kernel_rfl) (by kernel_rfl) (by kernel_rfl) (by kernel_rfl) (by kernel_rfl) (by kernel_rfl) (by kernel_rfl) ?_ ?_
      · refine ok_cons (ok_mv (Or.inl rfl) (by kernel_rfl) rfl (by kernel_rfl) (by kernel_rfl)) ?_
        refine ok_cons (ok_iaddr (b := 0) (off := 0) (off' := k) (u := .int .i64 ((k : Nat) : Int)) (ix22 (i := k) (by omega)) rfl (by kernel_rfl) rfl (by kernel_rfl) (by kernel_rfl) (by kernel_rfl) (by kernel_rfl)) ?_
        refine ok_cons (ok_load (b := 0) (off := k) (c := ai 22 (haF n k)) (v := .int .i64 ((((haF n k) k) : Nat) : Int)) (ld_at (n := 22) (F := (haF n k)) (i := k) (t0 := 35) (by omega)) rfl (by kernel_rfl) rfl (by kernel_rfl) (by kernel_rfl) (by kernel_rfl)) ?_
        refine ok_cons (ok_mv (Or.inr rfl) (by kernel_rfl) rfl (by kernel_rfl) (by kernel_rfl)) ?_
        exact ok_nil
      clear h; intro β a w h
      refine sym_then ?_
      refine sym_seq ?_
      refine sym_seq ?_
      refine St.region h [.inl (.agg (ai 22 (dg n))), .inr (0, 0), .inr (1, 0), .inl (.int .i64 ((k : Nat) : Int)), .inl (.int .i64 ((((haF n k) k) : Nat) : Int)), .inl (.int .i64 ((k : Nat) : Int)), .inl (.bool true), x7, x8, .inl (.int .i64 ((k : Nat) : Int)), .inr (0, k), .inl (.int .i64 ((((haF n k) k) : Nat) : Int)), .inl (.int .i64 ((k : Nat) : Int)), .inl (.bool false), x14, x15, x16, x17, x18, x19, x20, x21, x22, x23, x24, x25, uu] [(ai 22 (haF n k), 35), (ai 22 (fun _ => 0), 35)] [(ai 22 (haF n k), 35), (ai 22 (fun _ => 0), 35)] [#[], #[]] [nn, nn] (by kernel_rfl) (by kernel_rfl) (by kernel_rfl) (by kernel_rfl) (by kernel_rfl) (by kernel_rfl) (by kernel_rfl) (by kernel_rfl) ?_ ?_
      · refine ok_cons (ok_mv (Or.inl rfl) (by kernel_rfl) rfl (by kernel_rfl) (by kernel_rfl)) ?_
        refine ok_cons (ok_bin (x1 := .int .i64 ((k : Nat) : Int)) (u1 := .int .i64 ((21 : Nat) : Int)) (v := .bool false) (lt_i (m := ((k : Nat) : Int)) (n := ((21 : Nat) : Int)) (decide_eq_false (by omega))) rfl (by kernel_rfl) rfl (by kernel_rfl) (by kernel_rfl) (by kernel_rfl) (by kernel_rfl) (by kernel_rfl)) ?_
        exact ok_nil
      clear h; intro β a w h
      refine sym_then ?_
      refine sym_cond_f h (by kernel_rfl) (by kernel_rfl) ?_
      refine wp_skip ?_
      refine sym_then ?_
      refine St.region h [.inl (.agg (ai 22 (dg n))), .inr (0, 0), .inr (1, 0), .inl (.int .i64 ((k : Nat) : Int)), .inl (.int .i64 ((((haF n k) k) : Nat) : Int)), .inl (.int .i64 ((k : Nat) : Int)), .inl (.bool true), x7, x8, .inl (.int .i64 ((k : Nat) : Int)), .inr (0, k), .inl (.int .i64 ((((haF n k) k) : Nat) : Int)), .inl (.int .i64 ((k : Nat) : Int)), .inl (.bool false), x14, x15, x16, x17, x18, x19, x20, x21, .inl (.int .i64 ((k : Nat) : Int)), .inl (.int .i64 ((((haF n k) k) : Nat) : Int)), .inl (.int .i64 (((((haF n k) k) / 2) : Nat) : Int)), .inr (0, k), uu] [(ai 22 (updN (haF n k) k (((haF n k) k) / 2)), 35), (ai 22 (fun _ => 0), 35)] [(ai 22 (haF n k), 35), (ai 22 (fun _ => 0), 35)] [ai 22 (updN (haF n k) k (((haF n k) k) / 2)), #[]] [nn, nn, nn, nn, ⟨none, some 0, none, false⟩] (by kernel_rfl) (by kernel_rfl) (by kernel_rfl) (by kernel_rfl) (by kernel_rfl) (by kernel_rfl) (by kernel_rfl) (by kernel_rfl) ?_ ?_
      · refine ok_cons (ok_mv (Or.inl rfl) (by kernel_rfl) rfl (by kernel_rfl) (by kernel_rfl)) ?_
        refine ok_cons (ok_mv (Or.inl rfl) (by kernel_rfl) rfl (by kernel_rfl) (by kernel_rfl)) ?_
        refine ok_cons (ok_bin (x1 := .int .i64 ((((haF n k) k) : Nat) : Int)) (u1 := .int .i64 ((2 : Nat) : Int)) (v := .int .i64 (((((haF n k) k) / 2) : Nat) : Int)) (qu_i (m := ((haF n k) k)) (n := 2) (by decide) (by omega)) rfl (by kernel_rfl) rfl (by kernel_rfl) (by kernel_rfl) (by kernel_rfl) (by kernel_rfl) (by kernel_rfl)) ?_
        refine ok_cons (ok_iaddr (b := 0) (off := 0) (off' := k) (u := .int .i64 ((k : Nat) : Int)) (ix22 (i := k) (by omega)) rfl (by kernel_rfl) rfl (by kernel_rfl) (by kernel_rfl) (by kernel_rfl) (by kernel_rfl)) ?_
        refine ok_cons (ok_store (b := 0) (off := k) (u := .int .i64 (((((haF n k) k) / 2) : Nat) : Int)) (c := ai 22 (haF n k)) (n := ai 22 (updN (haF n k) k (((haF n k) k) / 2))) (st_at (n := 22) (F := (haF n k)) (i := k) (v := (((haF n k) k) / 2)) (t0 := 35) (by omega)) rfl (by kernel_rfl) rfl (by kernel_rfl) (by kernel_rfl) (by kernel_rfl) (by kernel_rfl) (by kernel_rfl)) ?_
        exact ok_nil
      clear h; intro β a w h
      refine blk_norm ?_
      refine sym_then ?_
      refine St.region h [.inl (.agg (ai 22 (dg n))), .inr (0, 0), .inr (1, 0), .inl (.int .i64 (((k + 1) : Nat) : Int)), .inl (.int .i64 ((((haF n k) k) : Nat) : Int)), .inl (.int .i64 ((k : Nat) : Int)), .inl (.bool true), .inl (.int .i64 ((k : Nat) : Int)), .inl (.int .i64 (((k + 1) : Nat) : Int)), .inl (.int .i64 ((k : Nat) : Int)), .inr (0, k), .inl (.int .i64 ((((haF n k) k) : Nat) : Int)), .inl (.int .i64 ((k : Nat) : Int)), .inl (.bool false), x14, x15, x16, x17, x18, x19, x20, x21, .inl (.int .i64 ((k : Nat) : Int)), .inl (.int .i64 ((((haF n k) k) : Nat) : Int)), .inl (.int .i64 (((((haF n k) k) / 2) : Nat) : Int)), .inr (0, k), uu] [(ai 22 (updN (haF n k) k (((haF n k) k) / 2)), 35), (ai 22 (fun _ => 0), 35)] [(ai 22 (updN (haF n k) k (((haF n k) k) / 2)), 35), (ai 22 (fun _ => 0), 35)] [#[], #[]] [⟨none, none, none, true⟩, nn, nn] (by kernel_rfl) (by kernel_rfl) (by kernel_rfl) (by kernel_rfl) (by kernel_rfl) (by kernel_rfl) (by kernel_rfl) (by kernel_rfl) ?_ ?_
      · refine ok_cons (ok_mv0 rfl (by kernel_rfl) rfl (by kernel_rfl) (by kernel_rfl)) ?_
        refine ok_cons (ok_bin (x1 := .int .i64 ((k : Nat) : Int)) (u1 := .int .i64 ((1 : Nat) : Int)) (v := .int .i64 (((k + 1) : Nat) : Int)) (ad_i (m := k) (n := 1) (by omega)) rfl (by kernel_rfl) rfl (by kernel_rfl) (by kernel_rfl) (by kernel_rfl) (by kernel_rfl) (by kernel_rfl)) ?_
        refine ok_cons (ok_mv (Or.inr rfl) (by kernel_rfl) rfl (by kernel_rfl) (by kernel_rfl)) ?_
        exact ok_nil
      clear h; intro β a w h
      replace h := St.setm h 0 (c := ai 22 (updN (haF n k) k (((haF n k) k) / 2))) (c' := ai 22 (haF n (k + 1))) (t := 35) (m' := [(ai 22 (haF n (k + 1)), 35), (ai 22 (fun _ => 0), 35)]) (haF_lastk hn hk2 hltk) (by kernel_rfl) (by kernel_rfl)
      exact ⟨hltk, _, _, _, _, _, _, _, _, _, _, _, _, _, _, _, _, _, _, _, _, _, _, _, h⟩
  · obtain rfl : k = 22 := by omega
    refine sym_seq ?_
    refine sym_seq ?_
    refine St.region h [.inl (.agg (ai 22 (dg n))), .inr (0, 0), .inr (1, 0), .inl (.int .i64 ((22 : Nat) : Int)), x4, .inl (.int .i64 ((22 : Nat) : Int)), .inl (.bool false), x7, x8, x9, x10, x11, x12, x13, x14, x15, x16, x17, x18, x19, x20, x21, x22, x23, x24, x25, uu] [(ai 22 (haF n 22), 35), (ai 22 (fun _ => 0), 35)] [(ai 22 (haF n 22), 35), (ai 22 (fun _ => 0), 35)] [#[], #[]] [nn, nn] (by kernel_rfl) (by kernel_rfl) (by kernel_rfl) (by kernel_rfl) (by kernel_rfl) (by kernel_rfl) (by kernel_rfl) (by kernel_rfl) ?_ ?_
    · refine ok_cons (ok_mv (Or.inl rfl) (by kernel_rfl) rfl (by kernel_rfl) (by kernel_rfl)) ?_
      refine ok_cons (ok_bin (x1 := .int .i64 ((22 : Nat) : Int)) (u1 := .int .i64 ((22 : Nat) : Int)) (v := .bool false) (lt_i (m := ((22 : Nat) : Int)) (n := ((22 : Nat) : Int)) (decide_eq_false (by omega))) rfl (by kernel_rfl) rfl (by kernel_rfl) (by kernel_rfl) (by kernel_rfl) (by kernel_rfl) (by kernel_rfl)) ?_
      exact ok_nil
    clear h; intro β a w h
    refine sym_then ?_
    refine sym_cond_f h (by kernel_rfl) (by kernel_rfl) ?_
    refine wp_exit ?_
    refine then_exit ?_
    refine then_exit ?_
    refine blk_exit ?_
    refine sym_then ?_
    refine sym_seq ?_
    refine St.region h [.inl (.agg (ai 22 (dg n))), .inr (0, 0), .inr (1, 0), .inl (.int .i64 ((22 : Nat) : Int)), x4, .inl (.int .i64 ((22 : Nat) : Int)), .inl (.bool false), x7, x8, x9, x10, x11, x12, x13, x14, x15, x16, x17, x18, x19, x20, x21, x22, x23, x24, x25, .inl (.agg (ai 22 (haF n 22)))] [(ai 22 (haF n 22), 35), (ai 22 (haF n 22), 35)] [(ai 22 (haF n 22), 35), (ai 22 (fun _ => 0), 35)] [#[], ai 22 (haF n 22)] [⟨none, none, some 0, false⟩, ⟨none, some 1, none, false⟩] (by kernel_rfl) (by kernel_rfl) (by kernel_rfl) (by kernel_rfl) (by kernel_rfl) (by kernel_rfl) (by kernel_rfl) (by kernel_rfl) ?_ ?_
    · refine ok_cons (ok_load (b := 0) (off := 0) (c := ai 22 (haF n 22)) (v := .agg (ai 22 (haF n 22))) (ld22 (F := (haF n 22)) 35) rfl (by kernel_rfl) rfl (by kernel_rfl) (by kernel_rfl) (by kernel_rfl)) ?_
      refine ok_cons (ok_store (b := 1) (off := 0) (u := .agg (ai 22 (haF n 22))) (c := ai 22 (fun _ => 0)) (n := ai 22 (haF n 22)) (st22 (F := (haF n 22)) (c := ai 22 (fun _ => 0)) 35 (ai_size _ _)) rfl (by kernel_rfl) rfl (by kernel_rfl) (by kernel_rfl) (by kernel_rfl) (by kernel_rfl) (by kernel_rfl)) ?_
      exact ok_nil
    clear h; intro β a w h
    refine sym_then ?_
    refine wp_ret ?_
    exact sym_retc (b := 1) (t0 := 35) (c := ai 22 (haF n 22)) h Try.results70 (by kernel_rfl) (by kernel_rfl) (by kernel_rfl) Try.underlying35 rfl (by rw [ai_size]; kernel_rfl) (fun hb => ⟨rfl, hb⟩)
end Go.Proofs.Ytgiemldmphbolaa

namespace Go.Proofs.Ytgiemldmphbolaa
open Go.RowKit
set_option maxHeartbeats 4000000 in
theorem power_r {m e : Nat} (hm : m < pp) (he : e < 2 ^ 255) (W0 : World) : Calls Try.prog 69 #[.agg (ai 22 (dg m)), .agg (ai 22 (dg e))] W0 fun e' w' => e' = .returned (.agg (ai 22 (dg (m ^ e % pp)))) ∧ Below W0.heap.size W0 w' := by
  rw [← pw_end]
  refine sym_enter Try.func69 Try.ntmps69 rfl [.inl (.agg (ai 22 (dg m))), .inl (.agg (ai 22 (dg e))), uu, uu, uu, uu, uu, uu, uu, uu, uu, uu, uu, uu, uu, uu, uu, uu, uu, uu, uu, uu, uu, uu, uu, uu, uu, uu, uu] (by kernel_rfl) (by kernel_rfl) ?_
  intro β a h
  refine sym_seq ?_
  refine St.region h [.inl (.agg (ai 22 (dg m))), .inl (.agg (ai 22 (dg e))), .inr (0, 0), .inr (1, 0), .inr (2, 0), uu, uu, uu, uu, uu, uu, uu, uu, uu, uu, uu, uu, uu, uu, uu, uu, uu, uu, uu, uu, uu, uu, uu, uu] [(ai 22 (dg m), 35), (ai 22 (dg e), 35), (ai 22 (fun _ => 0), 35)] [(ai 22 (dg m), 35), (ai 22 (dg e), 35), (ai 22 (fun _ => 0), 35)] [#[], #[], #[]] [⟨some 0, none, none, false⟩, ⟨some 1, none, none, false⟩, ⟨some 2, none, none, false⟩] (by kernel_rfl) (by kernel_rfl) (by kernel_rfl) (by kernel_rfl) (by kernel_rfl) (by kernel_rfl) (by kernel_rfl) (by kernel_rfl) ?_ ?_
  · refine ok_cons (ok_box (b := 0) (u := .agg (ai 22 (dg m))) (bx22 (F := (dg m))) rfl (by kernel_rfl) rfl (by kernel_rfl) (by kernel_rfl) (by kernel_rfl) (by kernel_rfl)) ?_
    refine ok_cons (ok_box (b := 1) (u := .agg (ai 22 (dg e))) (bx22 (F := (dg e))) rfl (by kernel_rfl) rfl (by kernel_rfl) (by kernel_rfl) (by kernel_rfl) (by kernel_rfl)) ?_
    refine ok_cons (ok_alloc (b := 2) al22 rfl (by kernel_rfl) rfl (by kernel_rfl) (by kernel_rfl)) ?_
    exact ok_nil
  clear h; intro β a w h
  refine sym_then ?_
  refine sym_seq ?_
  refine St.region h [.inl (.agg (ai 22 (dg m))), .inl (.agg (ai 22 (dg e))), .inr (0, 0), .inr (1, 0), .inr (2, 0), .inr (3, 0), uu, .inl (.agg (ai 22 (dg 1))), uu, uu, uu, uu, uu, uu, uu, uu, uu, uu, uu, uu, uu, uu, uu, uu, uu, uu, uu, uu, uu] [(ai 22 (dg m), 35), (ai 22 (dg e), 35), (ai 22 (fun _ => 0), 35), (ai 22 (dg 1), 35)] [(ai 22 (dg m), 35), (ai 22 (dg e), 35), (ai 22 (fun _ => 0), 35), (ai 22 (fun _ => 0), 35)] [#[], #[], #[], ai 22 (dg 1)] [nn, ⟨some 3, none, none, false⟩, ⟨none, some 3, none, false⟩] (by kernel_rfl) (by kernel_rfl) (by kernel_rfl) (by kernel_rfl) (by kernel_rfl) (by kernel_rfl) (by kernel_rfl) (by kernel_rfl) ?_ ?_
  · refine ok_cons (ok_call (vs := #[.int .i64 ((1 : Nat) : Int)]) (R := .agg (ai 22 (dg 1))) (fun w => int_r (N := 1) (by decide) w) rfl (by kernel_rfl) rfl (by kernel_rfl) (by kernel_rfl) (by kernel_rfl) (fun w => by kernel_rfl)) ?_
    refine ok_cons (ok_alloc (b := 3) al22 rfl (by kernel_rfl) rfl (by kernel_rfl) (by kernel_rfl)) ?_
    refine ok_cons (ok_store (b := 3) (off := 0) (u := .agg (ai 22 (dg 1))) (c := ai 22 (fun _ => 0)) (n := ai 22 (dg 1)) (st22 (F := (dg 1)) (c := ai 22 (fun _ => 0)) 35 (ai_size _ _)) rfl (by kernel_rfl) rfl (by kernel_rfl) (by kernel_rfl) (by kernel_rfl) (by kernel_rfl) (by kernel_rfl)) ?_
    exact ok_nil
  clear h; intro β a w h
  refine sym_then ?_
  refine sym_seq ?_
  refine sym_seq ?_
  refine St.region h [.inl (.agg (ai 22 (dg m))), .inl (.agg (ai 22 (dg e))), .inr (0, 0), .inr (1, 0), .inr (2, 0), .inr (3, 0), .inl (.int .i64 ((254 : Nat) : Int)), .inl (.agg (ai 22 (dg 1))), uu, uu, uu, uu, uu, uu, uu, uu, uu, uu, uu, uu, uu, uu, uu, uu, uu, uu, uu, uu, uu] [(ai 22 (dg m), 35), (ai 22 (dg e), 35), (ai 22 (fun _ => 0), 35), (ai 22 (dg 1), 35)] [(ai 22 (dg m), 35), (ai 22 (dg e), 35), (ai 22 (fun _ => 0), 35), (ai 22 (dg 1), 35)] [#[], #[], #[], #[]] [nn] (by kernel_rfl) (by kernel_rfl) (by kernel_rfl) (by kernel_rfl) (by kernel_rfl) (by kernel_rfl) (by kernel_rfl) (by kernel_rfl) ?_ ?_
  · refine ok_cons (ok_mv (Or.inr rfl) (by kernel_rfl) rfl (by kernel_rfl) (by kernel_rfl)) ?_
    exact ok_nil
  clear h; intro β a w h
  refine sym_then ?_
  refine blk_in ?_
  replace h := St.setm h 3 (c := ai 22 (dg 1)) (c' := ai 22 (dg (pw m e 0))) (t := 35) (m' := [(ai 22 (dg m), 35), (ai 22 (dg e), 35), (ai 22 (fun _ => 0), 35), (ai 22 (dg (pw m e 0)), 35)]) (by rw [pw_zero he]) (by kernel_rfl) (by kernel_rfl)
  replace h := St.sets h 6 (v := .int .i64 ((254 : Nat) : Int)) (v' := .int .i64 (dp 0)) (s' := [.inl (.agg (ai 22 (dg m))), .inl (.agg (ai 22 (dg e))), .inr (0, 0), .inr (1, 0), .inr (2, 0), .inr (3, 0), .inl (.int .i64 (dp 0)), .inl (.agg (ai 22 (dg 1))), uu, uu, uu, uu, uu, uu, uu, uu, uu, uu, uu, uu, uu, uu, uu, uu, uu, uu, uu, uu, uu]) (by rfl) (by kernel_rfl) (by kernel_rfl)
  refine loop_up 255 (fun k a w => ∃ (x8 x9 x10 x11 x12 x13 x14 x15 x16 x17 x18 x19 x20 x21 x22 x23 x24 x25 x26 x27 : SV) (β : Nat → Nat), St W0 [.inl (.agg (ai 22 (dg m))), .inl (.agg (ai 22 (dg e))), .inr (0, 0), .inr (1, 0), .inr (2, 0), .inr (3, 0), .inl (.int .i64 (dp k)), .inl (.agg (ai 22 (dg 1))), x8, x9, x10, x11, x12, x13, x14, x15, x16, x17, x18, x19, x20, x21, x22, x23, x24, x25, x26, x27, uu] [(ai 22 (dg m), 35), (ai 22 (dg e), 35), (ai 22 (fun _ => 0), 35), (ai 22 (dg (pw m e k)), 35)] β a w) ⟨_, _, _, _, _, _, _, _, _, _, _, _, _, _, _, _, _, _, _, _, β, h⟩ ?_
  clear h; rintro k a w hkk ⟨x8, x9, x10, x11, x12, x13, x14, x15, x16, x17, x18, x19, x20, x21, x22, x23, x24, x25, x26, x27, β, h⟩
  have g1 := bt_fig e (254 - k)
  have g2 := dg_lt e ((254 - k) / 12)
  rcases Nat.lt_or_ge k 255 with hltk | hgek
  · rcases (show bt e (254 - k) = 1 ∨ bt e (254 - k) = 0 by have := bt_lt e (254 - k); omega) with hb1 | hb0
    · replace h := St.sets h 6 (v := .int .i64 (dp k)) (v' := .int .i64 (((254 - k) : Nat) : Int)) (s' := [.inl (.agg (ai 22 (dg m))), .inl (.agg (ai 22 (dg e))), .inr (0, 0), .inr (1, 0), .inr (2, 0), .inr (3, 0), .inl (.int .i64 (((254 - k) : Nat) : Int)), .inl (.agg (ai 22 (dg 1))), x8, x9, x10, x11, x12, x13, x14, x15, x16, x17, x18, x19, x20, x21, x22, x23, x24, x25, x26, x27, uu]) (congrArg (Value.int .i64) (dp_ix hltk)) (by kernel_rfl) (by kernel_rfl)
      refine sym_seq ?_
      refine sym_seq ?_
      refine St.region h [.inl (.agg (ai 22 (dg m))), .inl (.agg (ai 22 (dg e))), .inr (0, 0), .inr (1, 0), .inr (2, 0), .inr (3, 0), .inl (.int .i64 (((254 - k) : Nat) : Int)), .inl (.agg (ai 22 (dg 1))), .inl (.int .i64 (((254 - k) : Nat) : Int)), .inl (.bool true), x10, x11, x12, x13, x14, x15, x16, x17, x18, x19, x20, x21, x22, x23, x24, x25, x26, x27, uu] [(ai 22 (dg m), 35), (ai 22 (dg e), 35), (ai 22 (fun _ => 0), 35), (ai 22 (dg (pw m e k)), 35)] [(ai 22 (dg m), 35), (ai 22 (dg e), 35), (ai 22 (fun _ => 0), 35), (ai 22 (dg (pw m e k)), 35)] [#[], #[], #[], #[]] [nn, nn] (by kernel_rfl) (by kernel_rfl) (by kernel_rfl) (by kernel_rfl) (by kernel_rfl) (by kernel_rfl) (by kernel_rfl) (by kernel_rfl) ?_ ?_
      · refine ok_cons (ok_mv (Or.inl rfl) (by kernel_rfl) rfl (by kernel_rfl) (by kernel_rfl)) ?_
        refine ok_cons (ok_bin (x1 := .int .i64 (((254 - k) : Nat) : Int)) (u1 := .int .i64 ((0 : Nat) : Int)) (v := .bool true) (ge_i (m := (((254 - k) : Nat) : Int)) (n := ((0 : Nat) : Int)) (decide_eq_true (by omega))) rfl (by kernel_rfl) rfl (by kernel_rfl) (by kernel_rfl) (by kernel_rfl) (by kernel_rfl) (by kernel_rfl)) ?_
        exact ok_nil
      clear h; intro β a w h
      refine sym_then ?_
      refine sym_cond_t h (by kernel_rfl) (by kernel_rfl) ?_
      refine wp_skip ?_
      refine sym_then ?_
      refine sym_seq ?_
      refine blk_in ?_
      refine sym_seq ?_
      refine St.region h [.inl (.agg (ai 22 (dg m))), .inl (.agg (ai 22 (dg e))), .inr (0, 0), .inr (1, 0), .inr (2, 0), .inr (3, 0), .inl (.int .i64 (((254 - k) : Nat) : Int)), .inl (.agg (ai 22 (dg 1))), .inl (.int .i64 (((254 - k) : Nat) : Int)), .inl (.bool true), x10, x11, .inl (.agg (ai 22 (dg (pw m e k)))), .inl (.agg (ai 22 (dg (pw m e k)))), .inl (.agg (ai 22 (dg ((pw m e k) * (pw m e k) % pp)))), x15, x16, x17, x18, x19, x20, x21, x22, x23, x24, x25, x26, x27, uu] [(ai 22 (dg m), 35), (ai 22 (dg e), 35), (ai 22 (fun _ => 0), 35), (ai 22 (dg ((pw m e k) * (pw m e k) % pp)), 35)] [(ai 22 (dg m), 35), (ai 22 (dg e), 35), (ai 22 (fun _ => 0), 35), (ai 22 (dg (pw m e k)), 35)] [#[], #[], #[], ai 22 (dg ((pw m e k) * (pw m e k) % pp))] [⟨none, none, some 3, false⟩, ⟨none, none, some 3, false⟩, nn, ⟨none, some 3, none, false⟩] (by kernel_rfl) (by kernel_rfl) (by kernel_rfl) (by kernel_rfl) (by kernel_rfl) (by kernel_rfl) (by kernel_rfl) (by kernel_rfl) ?_ ?_
      · refine ok_cons (ok_load (b := 3) (off := 0) (c := ai 22 (dg (pw m e k))) (v := .agg (ai 22 (dg (pw m e k)))) (ld22 (F := (dg (pw m e k))) 35) rfl (by kernel_rfl) rfl (by kernel_rfl) (by kernel_rfl) (by kernel_rfl)) ?_
        refine ok_cons (ok_load (b := 3) (off := 0) (c := ai 22 (dg (pw m e k))) (v := .agg (ai 22 (dg (pw m e k)))) (ld22 (F := (dg (pw m e k))) 35) rfl (by kernel_rfl) rfl (by kernel_rfl) (by kernel_rfl) (by kernel_rfl)) ?_
        refine ok_cons (ok_call (vs := #[.agg (ai 22 (dg (pw m e k))), .agg (ai 22 (dg (pw m e k)))]) (R := .agg (ai 22 (dg ((pw m e k) * (pw m e k) % pp)))) (fun w => times_r (m := (pw m e k)) (n := (pw m e k)) (lt_big (by first | exact mod_pp _ | exact pw_lt _ _ _ | assumption)) (lt_big (by first | exact mod_pp _ | exact pw_lt _ _ _ | assumption)) w) rfl (by kernel_rfl) rfl (by kernel_rfl) (by kernel_rfl) (by kernel_rfl) (fun w => by kernel_rfl)) ?_
        refine ok_cons (ok_store (b := 3) (off := 0) (u := .agg (ai 22 (dg ((pw m e k) * (pw m e k) % pp)))) (c := ai 22 (dg (pw m e k))) (n := ai 22 (dg ((pw m e k) * (pw m e k) % pp))) (st22 (F := (dg ((pw m e k) * (pw m e k) % pp))) (c := ai 22 (dg (pw m e k))) 35 (ai_size _ _)) rfl (by kernel_rfl) rfl (by kernel_rfl) (by kernel_rfl) (by kernel_rfl) (by kernel_rfl) (by kernel_rfl)) ?_
        exact ok_nil
      clear h; intro β a w h
      refine sym_then ?_
      refine sym_seq ?_
      refine St.region h [.inl (.agg (ai 22 (dg m))), .inl (.agg (ai 22 (dg e))), .inr (0, 0), .inr (1, 0), .inr (2, 0), .inr (3, 0), .inl (.int .i64 (((254 - k) : Nat) : Int)), .inl (.agg (ai 22 (dg 1))), .inl (.int .i64 (((254 - k) : Nat) : Int)), .inl (.bool true), x10, x11, .inl (.agg (ai 22 (dg (pw m e k)))), .inl (.agg (ai 22 (dg (pw m e k)))), .inl (.agg (ai 22 (dg ((pw m e k) * (pw m e k) % pp)))), .inl (.int .i64 (((254 - k) : Nat) : Int)), .inl (.int .i64 ((((254 - k) / 12) : Nat) : Int)), .inr (1, ((254 - k) / 12)), .inl (.int .i64 ((((dg e) ((254 - k) / 12)) : Nat) : Int)), .inl (.int .i64 (((254 - k) : Nat) : Int)), .inl (.int .i64 ((((254 - k) % 12) : Nat) : Int)), .inl (.int .u64 ((((254 - k) % 12) : Nat) : Int)), .inl (.int .i64 (((((dg e) ((254 - k) / 12)) / 2 ^ ((254 - k) % 12)) : Nat) : Int)), .inl (.int .i64 ((((((dg e) ((254 - k) / 12)) / 2 ^ ((254 - k) % 12)) % 2) : Nat) : Int)), .inl (.bool true), x25, x26, x27, uu] [(ai 22 (dg m), 35), (ai 22 (dg e), 35), (ai 22 (fun _ => 0), 35), (ai 22 (dg ((pw m e k) * (pw m e k) % pp)), 35)] [(ai 22 (dg m), 35), (ai 22 (dg e), 35), (ai 22 (fun _ => 0), 35), (ai 22 (dg ((pw m e k) * (pw m e k) % pp)), 35)] [#[], #[], #[], #[]] [nn, nn, nn, ⟨none, none, some 1, false⟩, nn, nn, nn, nn, nn, nn] (by kernel_rfl) (by kernel_rfl) (by kernel_rfl) (by kernel_rfl) (by kernel_rfl) (by kernel_rfl) (by kernel_rfl) (by kernel_rfl) ?_ ?_
      · refine ok_cons (ok_mv (Or.inl rfl) (by kernel_rfl) rfl (by kernel_rfl) (by kernel_rfl)) ?_
        refine ok_cons (ok_bin (x1 := .int .i64 (((254 - k) : Nat) : Int)) (u1 := .int .i64 ((12 : Nat) : Int)) (v := .int .i64 ((((254 - k) / 12) : Nat) : Int)) (qu_i (m := (254 - k)) (n := 12) (by decide) (by omega)) rfl (by kernel_rfl) rfl (by kernel_rfl) (by kernel_rfl) (by kernel_rfl) (by kernel_rfl) (by kernel_rfl)) ?_
        refine ok_cons (ok_iaddr (b := 1) (off := 0) (off' := ((254 - k) / 12)) (u := .int .i64 ((((254 - k) / 12) : Nat) : Int)) (ix22 (i := ((254 - k) / 12)) (by omega)) rfl (by kernel_rfl) rfl (by kernel_rfl) (by kernel_rfl) (by kernel_rfl) (by kernel_rfl)) ?_
        refine ok_cons (ok_load (b := 1) (off := ((254 - k) / 12)) (c := ai 22 (dg e)) (v := .int .i64 ((((dg e) ((254 - k) / 12)) : Nat) : Int)) (ld_at (n := 22) (F := (dg e)) (i := ((254 - k) / 12)) (t0 := 35) (by omega)) rfl (by kernel_rfl) rfl (by kernel_rfl) (by kernel_rfl) (by kernel_rfl)) ?_
        refine ok_cons (ok_mv (Or.inl rfl) (by kernel_rfl) rfl (by kernel_rfl) (by kernel_rfl)) ?_
        refine ok_cons (ok_bin (x1 := .int .i64 (((254 - k) : Nat) : Int)) (u1 := .int .i64 ((12 : Nat) : Int)) (v := .int .i64 ((((254 - k) % 12) : Nat) : Int)) (re_i (m := (254 - k)) (n := 12) (by decide)) rfl (by kernel_rfl) rfl (by kernel_rfl) (by kernel_rfl) (by kernel_rfl) (by kernel_rfl) (by kernel_rfl)) ?_
        refine ok_cons (ok_conv (x1 := .int .i64 ((((254 - k) % 12) : Nat) : Int)) (v := .int .u64 ((((254 - k) % 12) : Nat) : Int)) (cv_iu (n := ((254 - k) % 12)) (by omega)) rfl (by kernel_rfl) rfl (by kernel_rfl) (by kernel_rfl) (by kernel_rfl)) ?_
        refine ok_cons (ok_bin (x1 := .int .i64 ((((dg e) ((254 - k) / 12)) : Nat) : Int)) (u1 := .int .u64 ((((254 - k) % 12) : Nat) : Int)) (v := .int .i64 (((((dg e) ((254 - k) / 12)) / 2 ^ ((254 - k) % 12)) : Nat) : Int)) (sr_i (m := ((dg e) ((254 - k) / 12))) (r := ((254 - k) % 12)) (by omega)) rfl (by kernel_rfl) rfl (by kernel_rfl) (by kernel_rfl) (by kernel_rfl) (by kernel_rfl) (by kernel_rfl)) ?_
        refine ok_cons (ok_bin (x1 := .int .i64 (((((dg e) ((254 - k) / 12)) / 2 ^ ((254 - k) % 12)) : Nat) : Int)) (u1 := .int .i64 ((2 : Nat) : Int)) (v := .int .i64 ((((((dg e) ((254 - k) / 12)) / 2 ^ ((254 - k) % 12)) % 2) : Nat) : Int)) (re_i (m := (((dg e) ((254 - k) / 12)) / 2 ^ ((254 - k) % 12))) (n := 2) (by decide)) rfl (by kernel_rfl) rfl (by kernel_rfl) (by kernel_rfl) (by kernel_rfl) (by kernel_rfl) (by kernel_rfl)) ?_
        refine ok_cons (ok_bin (x1 := .int .i64 ((((((dg e) ((254 - k) / 12)) / 2 ^ ((254 - k) % 12)) % 2) : Nat) : Int)) (u1 := .int .i64 ((1 : Nat) : Int)) (v := .bool true) (eq_i (m := ((((((dg e) ((254 - k) / 12)) / 2 ^ ((254 - k) % 12)) % 2) : Nat) : Int)) (n := ((1 : Nat) : Int)) (decide_eq_true (by omega))) rfl (by kernel_rfl) rfl (by kernel_rfl) (by kernel_rfl) (by kernel_rfl) (by kernel_rfl) (by kernel_rfl)) ?_
        exact ok_nil
      clear h; intro β a w h
      refine sym_then ?_
      refine sym_cond_t h (by kernel_rfl) (by kernel_rfl) ?_
      refine St.region h [.inl (.agg (ai 22 (dg m))), .inl (.agg (ai 22 (dg e))), .inr (0, 0), .inr (1, 0), .inr (2, 0), .inr (3, 0), .inl (.int .i64 (((254 - k) : Nat) : Int)), .inl (.agg (ai 22 (dg 1))), .inl (.int .i64 (((254 - k) : Nat) : Int)), .inl (.bool true), x10, x11, .inl (.agg (ai 22 (dg (pw m e k)))), .inl (.agg (ai 22 (dg (pw m e k)))), .inl (.agg (ai 22 (dg ((pw m e k) * (pw m e k) % pp)))), .inl (.int .i64 (((254 - k) : Nat) : Int)), .inl (.int .i64 ((((254 - k) / 12) : Nat) : Int)), .inr (1, ((254 - k) / 12)), .inl (.int .i64 ((((dg e) ((254 - k) / 12)) : Nat) : Int)), .inl (.int .i64 (((254 - k) : Nat) : Int)), .inl (.int .i64 ((((254 - k) % 12) : Nat) : Int)), .inl (.int .u64 ((((254 - k) % 12) : Nat) : Int)), .inl (.int .i64 (((((dg e) ((254 - k) / 12)) / 2 ^ ((254 - k) % 12)) : Nat) : Int)), .inl (.int .i64 ((((((dg e) ((254 - k) / 12)) / 2 ^ ((254 - k) % 12)) % 2) : Nat) : Int)), .inl (.bool true), .inl (.agg (ai 22 (dg ((pw m e k) * (pw m e k) % pp)))), .inl (.agg (ai 22 (dg m))), .inl (.agg (ai 22 (dg (((pw m e k) * (pw m e k) % pp) * m % pp)))), uu] [(ai 22 (dg m), 35), (ai 22 (dg e), 35), (ai 22 (fun _ => 0), 35), (ai 22 (dg (((pw m e k) * (pw m e k) % pp) * m % pp)), 35)] [(ai 22 (dg m), 35), (ai 22 (dg e), 35), (ai 22 (fun _ => 0), 35), (ai 22 (dg ((pw m e k) * (pw m e k) % pp)), 35)] [#[], #[], #[], ai 22 (dg (((pw m e k) * (pw m e k) % pp) * m % pp))] [⟨none, none, some 3, false⟩, ⟨none, none, some 0, false⟩, nn, ⟨none, some 3, none, false⟩] (by kernel_rfl) (by kernel_rfl) (by kernel_rfl) (by kernel_rfl) (by kernel_rfl) (by kernel_rfl) (by kernel_rfl) (by kernel_rfl) ?_ ?_
      · refine ok_cons (ok_load (b := 3) (off := 0) (c := ai 22 (dg ((pw m e k) * (pw m e k) % pp))) (v := .agg (ai 22 (dg ((pw m e k) * (pw m e k) % pp)))) (ld22 (F := (dg ((pw m e k) * (pw m e k) % pp))) 35) rfl (by kernel_rfl) rfl (by kernel_rfl) (by kernel_rfl) (by kernel_rfl)) ?_
        refine ok_cons (ok_load (b := 0) (off := 0) (c := ai 22 (dg m)) (v := .agg (ai 22 (dg m))) (ld22 (F := (dg m)) 35) rfl (by kernel_rfl) rfl (by kernel_rfl) (by kernel_rfl) (by kernel_rfl)) ?_
        refine ok_cons (ok_call (vs := #[.agg (ai 22 (dg ((pw m e k) * (pw m e k) % pp))), .agg (ai 22 (dg m))]) (R := .agg (ai 22 (dg (((pw m e k) * (pw m e k) % pp) * m % pp)))) (fun w => times_r (m := ((pw m e k) * (pw m e k) % pp)) (n := m) (lt_big (by first | exact mod_pp _ | exact pw_lt _ _ _ | assumption)) (lt_big (by first | exact mod_pp _ | exact pw_lt _ _ _ | assumption)) w) rfl (by kernel_rfl) rfl (by kernel_rfl) (by kernel_rfl) (by kernel_rfl) (fun w => by kernel_rfl)) ?_
        refine ok_cons (ok_store (b := 3) (off := 0) (u := .agg (ai 22 (dg (((pw m e k) * (pw m e k) % pp) * m % pp)))) (c := ai 22 (dg ((pw m e k) * (pw m e k) % pp))) (n := ai 22 (dg (((pw m e k) * (pw m e k) % pp) * m % pp))) (st22 (F := (dg (((pw m e k) * (pw m e k) % pp) * m % pp))) (c := ai 22 (dg ((pw m e k) * (pw m e k) % pp))) 35 (ai_size _ _)) rfl (by kernel_rfl) rfl (by kernel_rfl) (by kernel_rfl) (by kernel_rfl) (by kernel_rfl) (by kernel_rfl)) ?_
        exact ok_nil
      clear h; intro β a w h
      refine blk_norm ?_
      refine sym_then ?_
      refine St.region h [.inl (.agg (ai 22 (dg m))), .inl (.agg (ai 22 (dg e))), .inr (0, 0), .inr (1, 0), .inr (2, 0), .inr (3, 0), .inl (.int .i64 (dp (k + 1))), .inl (.agg (ai 22 (dg 1))), .inl (.int .i64 (((254 - k) : Nat) : Int)), .inl (.bool true), .inl (.int .i64 (((254 - k) : Nat) : Int)), .inl (.int .i64 (dp (k + 1))), .inl (.agg (ai 22 (dg (pw m e k)))), .inl (.agg (ai 22 (dg (pw m e k)))), .inl (.agg (ai 22 (dg ((pw m e k) * (pw m e k) % pp)))), .inl (.int .i64 (((254 - k) : Nat) : Int)), .inl (.int .i64 ((((254 - k) / 12) : Nat) : Int)), .inr (1, ((254 - k) / 12)), .inl (.int .i64 ((((dg e) ((254 - k) / 12)) : Nat) : Int)), .inl (.int .i64 (((254 - k) : Nat) : Int)), .inl (.int .i64 ((((254 - k) % 12) : Nat) : Int)), .inl (.int .u64 ((((254 - k) % 12) : Nat) : Int)), .inl (.int .i64 (((((dg e) ((254 - k) / 12)) / 2 ^ ((254 - k) % 12)) : Nat) : Int)), .inl (.int .i64 ((((((dg e) ((254 - k) / 12)) / 2 ^ ((254 - k) % 12)) % 2) : Nat) : Int)), .inl (.bool true), .inl (.agg (ai 22 (dg ((pw m e k) * (pw m e k) % pp)))), .inl (.agg (ai 22 (dg m))), .inl (.agg (ai 22 (dg (((pw m e k) * (pw m e k) % pp) * m % pp)))), uu] [(ai 22 (dg m), 35), (ai 22 (dg e), 35), (ai 22 (fun _ => 0), 35), (ai 22 (dg (((pw m e k) * (pw m e k) % pp) * m % pp)), 35)] [(ai 22 (dg m), 35), (ai 22 (dg e), 35), (ai 22 (fun _ => 0), 35), (ai 22 (dg (((pw m e k) * (pw m e k) % pp) * m % pp)), 35)] [#[], #[], #[], #[]] [⟨none, none, none, true⟩, nn, nn] (by kernel_rfl) (by kernel_rfl) (by kernel_rfl) (by kernel_rfl) (by kernel_rfl) (by kernel_rfl) (by kernel_rfl) (by kernel_rfl) ?_ ?_
      · refine ok_cons (ok_mv0 rfl (by kernel_rfl) rfl (by kernel_rfl) (by kernel_rfl)) ?_
        refine ok_cons (ok_bin (x1 := .int .i64 (((254 - k) : Nat) : Int)) (u1 := .int .i64 ((1 : Nat) : Int)) (v := .int .i64 (dp (k + 1))) (sb_dp (k := k) (by omega)) rfl (by kernel_rfl) rfl (by kernel_rfl) (by kernel_rfl) (by kernel_rfl) (by kernel_rfl) (by kernel_rfl)) ?_
        refine ok_cons (ok_mv (Or.inr rfl) (by kernel_rfl) rfl (by kernel_rfl) (by kernel_rfl)) ?_
        exact ok_nil
      clear h; intro β a w h
      replace h := St.setm h 3 (c := ai 22 (dg (((pw m e k) * (pw m e k) % pp) * m % pp))) (c' := ai 22 (dg (pw m e (k + 1)))) (t := 35) (m' := [(ai 22 (dg m), 35), (ai 22 (dg e), 35), (ai 22 (fun _ => 0), 35), (ai 22 (dg (pw m e (k + 1))), 35)]) (by rw [pw_one hltk hb1]) (by kernel_rfl) (by kernel_rfl)
      exact ⟨hltk, _, _, _, _, _, _, _, _, _, _, _, _, _, _, _, _, _, _, _, _, _, h⟩
    · replace h := St.sets h 6 (v := .int .i64 (dp k)) (v' := .int .i64 (((254 - k) : Nat) : Int)) (s' := [.inl (.agg (ai 22 (dg m))), .inl (.agg (ai 22 (dg e))), .inr (0, 0), .inr (1, 0), .inr (2, 0), .inr (3, 0), .inl (.int .i64 (((254 - k) : Nat) : Int)), .inl (.agg (ai 22 (dg 1))), x8, x9, x10, x11, x12, x13, x14, x15, x16, x17, x18, x19, x20, x21, x22, x23, x24, x25, x26, x27, uu]) (congrArg (Value.int .i64) (dp_ix hltk)) (by kernel_rfl) (by kernel_rfl)
      refine sym_seq ?_
      refine sym_seq ?_
      refine St.region h [.inl (.agg (ai 22 (dg m))), .inl (.agg (ai 22 (dg e))), .inr (0, 0), .inr (1, 0), .inr (2, 0), .inr (3, 0), .inl (.int .i64 (((254 - k) : Nat) : Int)), .inl (.agg (ai 22 (dg 1))), .inl (.int .i64 (((254 - k) : Nat) : Int)), .inl (.bool true), x10, x11, x12, x13, x14, x15, x16, x17, x18, x19, x20, x21, x22, x23, x24, x25, x26, x27, uu] [(ai 22 (dg m), 35), (ai 22 (dg e), 35), (ai 22 (fun _ => 0), 35), (ai 22 (dg (pw m e k)), 35)] [(ai 22 (dg m), 35), (ai 22 (dg e), 35), (ai 22 (fun _ => 0), 35), (ai 22 (dg (pw m e k)), 35)] [#[], #[], #[], #[]] [nn, nn] (by kernel_rfl) (by kernel_rfl) (by kernel_rfl) (by kernel_rfl) (by kernel_rfl) (by kernel_rfl) (by kernel_rfl) (by kernel_rfl) ?_ ?_
      · refine ok_cons (ok_mv (Or.inl rfl) (by kernel_rfl) rfl (by kernel_rfl) (by kernel_rfl)) ?_
        refine ok_cons (ok_bin (x1 := .int .i64 (((254 - k) : Nat) : Int)) (u1 := .int .i64 ((0 : Nat) : Int)) (v := .bool true) (ge_i (m := (((254 - k) : Nat) : Int)) (n := ((0 : Nat) : Int)) (decide_eq_true (by omega))) rfl (by kernel_rfl) rfl (by kernel_rfl) (by kernel_rfl) (by kernel_rfl) (by kernel_rfl) (by kernel_rfl)) ?_
        exact ok_nil
      clear h; intro β a w h
      refine sym_then ?_
      refine sym_cond_t h (by kernel_rfl) (by kernel_rfl) ?_
      refine wp_skip ?_
      refine sym_then ?_
      refine sym_seq ?_
      refine blk_in ?_
      refine sym_seq ?_
      refine St.region h [.inl (.agg (ai 22 (dg m))), .inl (.agg (ai 22 (dg e))), .inr (0, 0), .inr (1, 0), .inr (2, 0), .inr (3, 0), .inl (.int .i64 (((254 - k) : Nat) : Int)), .inl (.agg (ai 22 (dg 1))), .inl (.int .i64 (((254 - k) : Nat) : Int)), .inl (.bool true), x10, x11, .inl (.agg (ai 22 (dg (pw m e k)))), .inl (.agg (ai 22 (dg (pw m e k)))), .inl (.agg (ai 22 (dg ((pw m e k) * (pw m e k) % pp)))), x15, x16, x17, x18, x19, x20, x21, x22, x23, x24, x25, x26, x27, uu] [(ai 22 (dg m), 35), (ai 22 (dg e), 35), (ai 22 (fun _ => 0), 35), (ai 22 (dg ((pw m e k) * (pw m e k) % pp)), 35)] [(ai 22 (dg m), 35), (ai 22 (dg e), 35), (ai 22 (fun _ => 0), 35), (ai 22 (dg (pw m e k)), 35)] [#[], #[], #[], ai 22 (dg ((pw m e k) * (pw m e k) % pp))] [⟨none, none, some 3, false⟩, ⟨none, none, some 3, false⟩, nn, ⟨none, some 3, none, false⟩] (by kernel_rfl) (by kernel_rfl) (by kernel_rfl) (by kernel_rfl) (by kernel_rfl) (by kernel_rfl) (by kernel_rfl) (by kernel_rfl) ?_ ?_
      · refine ok_cons (ok_load (b := 3) (off := 0) (c := ai 22 (dg (pw m e k))) (v := .agg (ai 22 (dg (pw m e k)))) (ld22 (F := (dg (pw m e k))) 35) rfl (by kernel_rfl) rfl (by kernel_rfl) (by kernel_rfl) (by kernel_rfl)) ?_
        refine ok_cons (ok_load (b := 3) (off := 0) (c := ai 22 (dg (pw m e k))) (v := .agg (ai 22 (dg (pw m e k)))) (ld22 (F := (dg (pw m e k))) 35) rfl (by kernel_rfl) rfl (by kernel_rfl) (by kernel_rfl) (by kernel_rfl)) ?_
        refine ok_cons (ok_call (vs := #[.agg (ai 22 (dg (pw m e k))), .agg (ai 22 (dg (pw m e k)))]) (R := .agg (ai 22 (dg ((pw m e k) * (pw m e k) % pp)))) (fun w => times_r (m := (pw m e k)) (n := (pw m e k)) (lt_big (by first | exact mod_pp _ | exact pw_lt _ _ _ | assumption)) (lt_big (by first | exact mod_pp _ | exact pw_lt _ _ _ | assumption)) w) rfl (by kernel_rfl) rfl (by kernel_rfl) (by kernel_rfl) (by kernel_rfl) (fun w => by kernel_rfl)) ?_
        refine ok_cons (ok_store (b := 3) (off := 0) (u := .agg (ai 22 (dg ((pw m e k) * (pw m e k) % pp)))) (c := ai 22 (dg (pw m e k))) (n := ai 22 (dg ((pw m e k) * (pw m e k) % pp))) (st22 (F := (dg ((pw m e k) * (pw m e k) % pp))) (c := ai 22 (dg (pw m e k))) 35 (ai_size _ _)) rfl (by kernel_rfl) rfl (by kernel_rfl) (by kernel_rfl) (by kernel_rfl) (by kernel_rfl) (by kernel_rfl)) ?_
        exact ok_nil
      clear h; intro β a w h
      refine sym_then ?_
      refine sym_seq ?_
      refine St.region h [.inl (.agg (ai 22 (dg m))), .inl (.agg (ai 22 (dg e))), .inr (0, 0), .inr (1, 0), .inr (2, 0), .inr (3, 0), .inl (.int .i64 (((254 - k) : Nat) : Int)), .inl (.agg (ai 22 (dg 1))), .inl (.int .i64 (((254 - k) : Nat) : Int)), .inl (.bool true), x10, x11, .inl (.agg (ai 22 (dg (pw m e k)))), .inl (.agg (ai 22 (dg (pw m e k)))), .inl (.agg (ai 22 (dg ((pw m e k) * (pw m e k) % pp)))), .inl (.int .i64 (((254 - k) : Nat) : Int)), .inl (.int .i64 ((((254 - k) / 12) : Nat) : Int)), .inr (1, ((254 - k) / 12)), .inl (.int .i64 ((((dg e) ((254 - k) / 12)) : Nat) : Int)), .inl (.int .i64 (((254 - k) : Nat) : Int)), .inl (.int .i64 ((((254 - k) % 12) : Nat) : Int)), .inl (.int .u64 ((((254 - k) % 12) : Nat) : Int)), .inl (.int .i64 (((((dg e) ((254 - k) / 12)) / 2 ^ ((254 - k) % 12)) : Nat) : Int)), .inl (.int .i64 ((((((dg e) ((254 - k) / 12)) / 2 ^ ((254 - k) % 12)) % 2) : Nat) : Int)), .inl (.bool false), x25, x26, x27, uu] [(ai 22 (dg m), 35), (ai 22 (dg e), 35), (ai 22 (fun _ => 0), 35), (ai 22 (dg ((pw m e k) * (pw m e k) % pp)), 35)] [(ai 22 (dg m), 35), (ai 22 (dg e), 35), (ai 22 (fun _ => 0), 35), (ai 22 (dg ((pw m e k) * (pw m e k) % pp)), 35)] [#[], #[], #[], #[]] [nn, nn, nn, ⟨none, none, some 1, false⟩, nn, nn, nn, nn, nn, nn] (by kernel_rfl) (by kernel_rfl) (by kernel_rfl) (by kernel_rfl) (by kernel_rfl) (by kernel_rfl) (by kernel_rfl) (by kernel_rfl) ?_ ?_
      · refine ok_cons (ok_mv (Or.inl rfl) (by kernel_rfl) rfl (by kernel_rfl) (by kernel_rfl)) ?_
        refine ok_cons (ok_bin (x1 := .int .i64 (((254 - k) : Nat) : Int)) (u1 := .int .i64 ((12 : Nat) : Int)) (v := .int .i64 ((((254 - k) / 12) : Nat) : Int)) (qu_i (m := (254 - k)) (n := 12) (by decide) (by omega)) rfl (by kernel_rfl) rfl (by kernel_rfl) (by kernel_rfl) (by kernel_rfl) (by kernel_rfl) (by kernel_rfl)) ?_
        refine ok_cons (ok_iaddr (b := 1) (off := 0) (off' := ((254 - k) / 12)) (u := .int .i64 ((((254 - k) / 12) : Nat) : Int)) (ix22 (i := ((254 - k) / 12)) (by omega)) rfl (by kernel_rfl) rfl (by kernel_rfl) (by kernel_rfl) (by kernel_rfl) (by kernel_rfl)) ?_
        refine ok_cons (ok_load (b := 1) (off := ((254 - k) / 12)) (c := ai 22 (dg e)) (v := .int .i64 ((((dg e) ((254 - k) / 12)) : Nat) : Int)) (ld_at (n := 22) (F := (dg e)) (i := ((254 - k) / 12)) (t0 := 35) (by omega)) rfl (by kernel_rfl) rfl (by kernel_rfl) (by kernel_rfl) (by kernel_rfl)) ?_
        refine ok_cons (ok_mv (Or.inl rfl) (by kernel_rfl) rfl (by kernel_rfl) (by kernel_rfl)) ?_
        refine ok_cons (ok_bin (x1 := .int .i64 (((254 - k) : Nat) : Int)) (u1 := .int .i64 ((12 : Nat) : Int)) (v := .int .i64 ((((254 - k) % 12) : Nat) : Int)) (re_i (m := (254 - k)) (n := 12) (by decide)) rfl (by kernel_rfl) rfl (by kernel_rfl) (by kernel_rfl) (by kernel_rfl) (by kernel_rfl) (by kernel_rfl)) ?_
        refine ok_cons (ok_conv (x1 := .int .i64 ((((254 - k) % 12) : Nat) : Int)) (v := .int .u64 ((((254 - k) % 12) : Nat) : Int)) (cv_iu (n := ((254 - k) % 12)) (by omega)) rfl (by kernel_rfl) rfl (by kernel_rfl) (by kernel_rfl) (by kernel_rfl)) ?_
        refine ok_cons (ok_bin (x1 := .int .i64 ((((dg e) ((254 - k) / 12)) : Nat) : Int)) (u1 := .int .u64 ((((254 - k) % 12) : Nat) : Int)) (v := .int .i64 (((((dg e) ((254 - k) / 12)) / 2 ^ ((254 - k) % 12)) : Nat) : Int)) (sr_i (m := ((dg e) ((254 - k) / 12))) (r := ((254 - k) % 12)) (by omega)) rfl (by kernel_rfl) rfl (by kernel_rfl) (by kernel_rfl) (by kernel_rfl) (by kernel_rfl) (by kernel_rfl)) ?_
        refine ok_cons (ok_bin (x1 := .int .i64 (((((dg e) ((254 - k) / 12)) / 2 ^ ((254 - k) % 12)) : Nat) : Int)) (u1 := .int .i64 ((2 : Nat) : Int)) (v := .int .i64 ((((((dg e) ((254 - k) / 12)) / 2 ^ ((254 - k) % 12)) % 2) : Nat) : Int)) (re_i (m := (((dg e) ((254 - k) / 12)) / 2 ^ ((254 - k) % 12))) (n := 2) (by decide)) rfl (by kernel_rfl) rfl (by kernel_rfl) (by kernel_rfl) (by kernel_rfl) (by kernel_rfl) (by kernel_rfl)) ?_
        refine ok_cons (ok_bin (x1 := .int .i64 ((((((dg e) ((254 - k) / 12)) / 2 ^ ((254 - k) % 12)) % 2) : Nat) : Int)) (u1 := .int .i64 ((1 : Nat) : Int)) (v := .bool false) (eq_i (m := ((((((dg e) ((254 - k) / 12)) / 2 ^ ((254 - k) % 12)) % 2) : Nat) : Int)) (n := ((1 : Nat) : Int)) (decide_eq_false (by omega))) rfl (by kernel_rfl) rfl (by kernel_rfl) (by kernel_rfl) (by kernel_rfl) (by kernel_rfl) (by kernel_rfl)) ?_
        exact ok_nil
      clear h; intro β a w h
      refine sym_then ?_
      refine sym_cond_f h (by kernel_rfl) (by kernel_rfl) ?_
      refine wp_skip ?_
      refine blk_norm ?_
      refine sym_then ?_
      refine St.region h [.inl (.agg (ai 22 (dg m))), .inl (.agg (ai 22 (dg e))), .inr (0, 0), .inr (1, 0), .inr (2, 0), .inr (3, 0), .inl (.int .i64 (dp (k + 1))), .inl (.agg (ai 22 (dg 1))), .inl (.int .i64 (((254 - k) : Nat) : Int)), .inl (.bool true), .inl (.int .i64 (((254 - k) : Nat) : Int)), .inl (.int .i64 (dp (k + 1))), .inl (.agg (ai 22 (dg (pw m e k)))), .inl (.agg (ai 22 (dg (pw m e k)))), .inl (.agg (ai 22 (dg ((pw m e k) * (pw m e k) % pp)))), .inl (.int .i64 (((254 - k) : Nat) : Int)), .inl (.int .i64 ((((254 - k) / 12) : Nat) : Int)), .inr (1, ((254 - k) / 12)), .inl (.int .i64 ((((dg e) ((254 - k) / 12)) : Nat) : Int)), .inl (.int .i64 (((254 - k) : Nat) : Int)), .inl (.int .i64 ((((254 - k) % 12) : Nat) : Int)), .inl (.int .u64 ((((254 - k) % 12) : Nat) : Int)), .inl (.int .i64 (((((dg e) ((254 - k) / 12)) / 2 ^ ((254 - k) % 12)) : Nat) : Int)), .inl (.int .i64 ((((((dg e) ((254 - k) / 12)) / 2 ^ ((254 - k) % 12)) % 2) : Nat) : Int)), .inl (.bool false), x25, x26, x27, uu] [(ai 22 (dg m), 35), (ai 22 (dg e), 35), (ai 22 (fun _ => 0), 35), (ai 22 (dg ((pw m e k) * (pw m e k) % pp)), 35)] [(ai 22 (dg m), 35), (ai 22 (dg e), 35), (ai 22 (fun _ => 0), 35), (ai 22 (dg ((pw m e k) * (pw m e k) % pp)), 35)] [#[], #[], #[], #[]] [⟨none, none, none, true⟩, nn, nn] (by kernel_rfl) (by kernel_rfl) (by kernel_rfl) (by kernel_rfl) (by kernel_rfl) (by kernel_rfl) (by kernel_rfl) (by kernel_rfl) ?_ ?_
      · refine ok_cons (ok_mv0 rfl (by kernel_rfl) rfl (by kernel_rfl) (by kernel_rfl)) ?_
        refine ok_cons (ok_bin (x1 := .int .i64 (((254 - k) : Nat) : Int)) (u1 := .int .i64 ((1 : Nat) : Int)) (v := .int .i64 (dp (k + 1))) (sb_dp (k := k) (by omega)) rfl (by kernel_rfl) rfl (by kernel_rfl) (by kernel_rfl) (by kernel_rfl) (by kernel_rfl) (by kernel_rfl)) ?_
        refine ok_cons (ok_mv (Or.inr rfl) (by kernel_rfl) rfl (by kernel_rfl) (by kernel_rfl)) ?_
        exact ok_nil
      clear h; intro β a w h
      replace h := St.setm h 3 (c := ai 22 (dg ((pw m e k) * (pw m e k) % pp))) (c' := ai 22 (dg (pw m e (k + 1)))) (t := 35) (m' := [(ai 22 (dg m), 35), (ai 22 (dg e), 35), (ai 22 (fun _ => 0), 35), (ai 22 (dg (pw m e (k + 1))), 35)]) (by rw [pw_none hltk hb0]) (by kernel_rfl) (by kernel_rfl)
      exact ⟨hltk, _, _, _, _, _, _, _, _, _, _, _, _, _, _, _, _, _, _, _, _, _, h⟩
  · obtain rfl : k = 255 := by omega
    refine sym_seq ?_
    refine sym_seq ?_
    refine St.region h [.inl (.agg (ai 22 (dg m))), .inl (.agg (ai 22 (dg e))), .inr (0, 0), .inr (1, 0), .inr (2, 0), .inr (3, 0), .inl (.int .i64 (dp 255)), .inl (.agg (ai 22 (dg 1))), .inl (.int .i64 (dp 255)), .inl (.bool false), x10, x11, x12, x13, x14, x15, x16, x17, x18, x19, x20, x21, x22, x23, x24, x25, x26, x27, uu] [(ai 22 (dg m), 35), (ai 22 (dg e), 35), (ai 22 (fun _ => 0), 35), (ai 22 (dg (pw m e 255)), 35)] [(ai 22 (dg m), 35), (ai 22 (dg e), 35), (ai 22 (fun _ => 0), 35), (ai 22 (dg (pw m e 255)), 35)] [#[], #[], #[], #[]] [nn, nn] (by kernel_rfl) (by kernel_rfl) (by kernel_rfl) (by kernel_rfl) (by kernel_rfl) (by kernel_rfl) (by kernel_rfl) (by kernel_rfl) ?_ ?_
    · refine ok_cons (ok_mv (Or.inl rfl) (by kernel_rfl) rfl (by kernel_rfl) (by kernel_rfl)) ?_
      refine ok_cons (ok_bin (x1 := .int .i64 (dp 255)) (u1 := .int .i64 ((0 : Nat) : Int)) (v := .bool false) (ge_i (m := dp 255) (n := ((0 : Nat) : Int)) (decide_eq_false (by unfold dp; omega))) rfl (by kernel_rfl) rfl (by kernel_rfl) (by kernel_rfl) (by kernel_rfl) (by kernel_rfl) (by kernel_rfl)) ?_
      exact ok_nil
    clear h; intro β a w h
    refine sym_then ?_
    refine sym_cond_f h (by kernel_rfl) (by kernel_rfl) ?_
    refine wp_exit ?_
    refine then_exit ?_
    refine then_exit ?_
    refine blk_exit ?_
    refine sym_then ?_
    refine sym_seq ?_
    refine St.region h [.inl (.agg (ai 22 (dg m))), .inl (.agg (ai 22 (dg e))), .inr (0, 0), .inr (1, 0), .inr (2, 0), .inr (3, 0), .inl (.int .i64 (dp 255)), .inl (.agg (ai 22 (dg 1))), .inl (.int .i64 (dp 255)), .inl (.bool false), x10, x11, x12, x13, x14, x15, x16, x17, x18, x19, x20, x21, x22, x23, x24, x25, x26, x27, .inl (.agg (ai 22 (dg (pw m e 255))))] [(ai 22 (dg m), 35), (ai 22 (dg e), 35), (ai 22 (dg (pw m e 255)), 35), (ai 22 (dg (pw m e 255)), 35)] [(ai 22 (dg m), 35), (ai 22 (dg e), 35), (ai 22 (fun _ => 0), 35), (ai 22 (dg (pw m e 255)), 35)] [#[], #[], ai 22 (dg (pw m e 255)), #[]] [⟨none, none, some 3, false⟩, ⟨none, some 2, none, false⟩] (by kernel_rfl) (by kernel_rfl) (by kernel_rfl) (by kernel_rfl) (by kernel_rfl) (by kernel_rfl) (by kernel_rfl) (by kernel_rfl) ?_ ?_
    · refine ok_cons (ok_load (b := 3) (off := 0) (c := ai 22 (dg (pw m e 255))) (v := .agg (ai 22 (dg (pw m e 255)))) (ld22 (F := (dg (pw m e 255))) 35) rfl (by kernel_rfl) rfl (by kernel_rfl) (by kernel_rfl) (by kernel_rfl)) ?_
      refine ok_cons (ok_store (b := 2) (off := 0) (u := .agg (ai 22 (dg (pw m e 255)))) (c := ai 22 (fun _ => 0)) (n := ai 22 (dg (pw m e 255))) (st22 (F := (dg (pw m e 255))) (c := ai 22 (fun _ => 0)) 35 (ai_size _ _)) rfl (by kernel_rfl) rfl (by kernel_rfl) (by kernel_rfl) (by kernel_rfl) (by kernel_rfl) (by kernel_rfl)) ?_
      exact ok_nil
    clear h; intro β a w h
    refine sym_then ?_
    refine wp_ret ?_
    exact sym_retc (b := 2) (t0 := 35) (c := ai 22 (dg (pw m e 255))) h Try.results69 (by kernel_rfl) (by kernel_rfl) (by kernel_rfl) Try.underlying35 rfl (by rw [ai_size]; kernel_rfl) (fun hb => ⟨rfl, hb⟩)
set_option maxHeartbeats 4000000 in
theorem over_q {m n k r : Nat} (hm : m < pp) (hr : r < pp) (c1 : ∀ w, Calls Try.prog 71 #[.agg (ai 22 (dg pp)), .agg (ai 22 (dg 2))] w fun e w' => e = .returned (.agg (ai 22 (dg k))) ∧ Below w.heap.size w w') (c2 : ∀ w, Calls Try.prog 69 #[.agg (ai 22 (dg n)), .agg (ai 22 (dg k))] w fun e w' => e = .returned (.agg (ai 22 (dg r))) ∧ Below w.heap.size w w') (W0 : World) :
    Calls Try.prog 40 #[.agg (ai 22 (dg m)), .agg (ai 22 (dg n))] W0 fun e w' => e = .returned (.agg (ai 22 (dg (m * r % pp)))) ∧ Below W0.heap.size W0 w' := by
  refine sym_enter Try.func40 Try.ntmps40 rfl [.inl (.agg (ai 22 (dg m))), .inl (.agg (ai 22 (dg n))), uu, uu, uu, uu, uu, uu, uu, uu, uu, uu] (by kernel_rfl) (by kernel_rfl) ?_
  intro β a h
  refine sym_seq ?_
  refine St.region h [.inl (.agg (ai 22 (dg m))), .inl (.agg (ai 22 (dg n))), .inr (0, 0), .inr (1, 0), .inr (2, 0), uu, uu, uu, uu, uu, uu, uu] [(ai 22 (dg m), 35), (ai 22 (dg n), 35), (ai 22 (fun _ => 0), 35)] [(ai 22 (dg m), 35), (ai 22 (dg n), 35), (ai 22 (fun _ => 0), 35)] [#[], #[], #[]] [⟨some 0, none, none, false⟩, ⟨some 1, none, none, false⟩, ⟨some 2, none, none, false⟩] (by kernel_rfl) (by kernel_rfl) (by kernel_rfl) (by kernel_rfl) (by kernel_rfl) (by kernel_rfl) (by kernel_rfl) (by kernel_rfl) ?_ ?_
  · refine ok_cons (ok_box (b := 0) (u := .agg (ai 22 (dg m))) (bx22 (F := (dg m))) rfl (by kernel_rfl) rfl (by kernel_rfl) (by kernel_rfl) (by kernel_rfl) (by kernel_rfl)) ?_
    refine ok_cons (ok_box (b := 1) (u := .agg (ai 22 (dg n))) (bx22 (F := (dg n))) rfl (by kernel_rfl) rfl (by kernel_rfl) (by kernel_rfl) (by kernel_rfl) (by kernel_rfl)) ?_
    refine ok_cons (ok_alloc (b := 2) al22 rfl (by kernel_rfl) rfl (by kernel_rfl) (by kernel_rfl)) ?_
    exact ok_nil
  clear h; intro β a w h
  refine sym_then ?_
  refine sym_seq ?_
  refine St.region h [.inl (.agg (ai 22 (dg m))), .inl (.agg (ai 22 (dg n))), .inr (0, 0), .inr (1, 0), .inr (2, 0), .inl (.agg (ai 22 (dg m))), .inl (.agg (ai 22 (dg n))), .inl (.agg (ai 22 (dg pp))), .inl (.agg (ai 22 (dg 2))), .inl (.agg (ai 22 (dg k))), .inl (.agg (ai 22 (dg r))), .inl (.agg (ai 22 (dg (m * r % pp))))] [(ai 22 (dg m), 35), (ai 22 (dg n), 35), (ai 22 (dg (m * r % pp)), 35)] [(ai 22 (dg m), 35), (ai 22 (dg n), 35), (ai 22 (fun _ => 0), 35)] [#[], #[], ai 22 (dg (m * r % pp))] [⟨none, none, some 0, false⟩, ⟨none, none, some 1, false⟩, nn, nn, nn, nn, nn, ⟨none, some 2, none, false⟩] (by kernel_rfl) (by kernel_rfl) (by kernel_rfl) (by kernel_rfl) (by kernel_rfl) (by kernel_rfl) (by kernel_rfl) (by kernel_rfl) ?_ ?_
  · refine ok_cons (ok_load (b := 0) (off := 0) (c := ai 22 (dg m)) (v := .agg (ai 22 (dg m))) (ld22 (F := (dg m)) 35) rfl (by kernel_rfl) rfl (by kernel_rfl) (by kernel_rfl) (by kernel_rfl)) ?_
    refine ok_cons (ok_load (b := 1) (off := 0) (c := ai 22 (dg n)) (v := .agg (ai 22 (dg n))) (ld22 (F := (dg n)) 35) rfl (by kernel_rfl) rfl (by kernel_rfl) (by kernel_rfl) (by kernel_rfl)) ?_
    refine ok_cons (ok_call (vs := #[]) (R := .agg (ai 22 (dg pp))) prime_r rfl (by kernel_rfl) rfl (by kernel_rfl) (by kernel_rfl) (by kernel_rfl) (fun w => by kernel_rfl)) ?_
    refine ok_cons (ok_call (vs := #[.int .i64 ((2 : Nat) : Int)]) (R := .agg (ai 22 (dg 2))) (fun w => int_r (N := 2) (by decide) w) rfl (by kernel_rfl) rfl (by kernel_rfl) (by kernel_rfl) (by kernel_rfl) (fun w => by kernel_rfl)) ?_
    refine ok_cons (ok_call (vs := #[.agg (ai 22 (dg pp)), .agg (ai 22 (dg 2))]) (R := .agg (ai 22 (dg k))) c1 rfl (by kernel_rfl) rfl (by kernel_rfl) (by kernel_rfl) (by kernel_rfl) (fun w => by kernel_rfl)) ?_
    refine ok_cons (ok_call (vs := #[.agg (ai 22 (dg n)), .agg (ai 22 (dg k))]) (R := .agg (ai 22 (dg r))) c2 rfl (by kernel_rfl) rfl (by kernel_rfl) (by kernel_rfl) (by kernel_rfl) (fun w => by kernel_rfl)) ?_
    refine ok_cons (ok_call (vs := #[.agg (ai 22 (dg m)), .agg (ai 22 (dg r))]) (R := .agg (ai 22 (dg (m * r % pp)))) (fun w => times_r (lt_big hm) (lt_big hr) w) rfl (by kernel_rfl) rfl (by kernel_rfl) (by kernel_rfl) (by kernel_rfl) (fun w => by kernel_rfl)) ?_
    refine ok_cons (ok_store (b := 2) (off := 0) (u := .agg (ai 22 (dg (m * r % pp)))) (c := ai 22 (fun _ => 0)) (n := ai 22 (dg (m * r % pp))) (st22 (F := (dg (m * r % pp))) (c := ai 22 (fun _ => 0)) 35 (ai_size _ _)) rfl (by kernel_rfl) rfl (by kernel_rfl) (by kernel_rfl) (by kernel_rfl) (by kernel_rfl) (by kernel_rfl)) ?_
    exact ok_nil
  clear h; intro β a w h
  refine sym_then ?_
  refine wp_ret ?_
  exact sym_retc (b := 2) (t0 := 35) (c := ai 22 (dg (m * r % pp))) h Try.results40 (by kernel_rfl) (by kernel_rfl) (by kernel_rfl) Try.underlying35 rfl (by rw [ai_size]; kernel_rfl) (fun hb => ⟨rfl, hb⟩)
theorem over_r {m n k : Nat} (hm : m < pp) (hn : n < pp) (hk : k = 57896044618658097711785492504343953926634992332820282019728792003956564819947) (W0 : World) :
    Calls Try.prog 40 #[.agg (ai 22 (dg m)), .agg (ai 22 (dg n))] W0 fun e w' => e = .returned (.agg (ai 22 (dg (m * (n ^ k % pp) % pp)))) ∧ Below W0.heap.size W0 w' := by
  have e : pp - 2 = k := by rw [hk]; decide +kernel
  have h255 : k < 2 ^ 255 := by rw [hk]; decide +kernel
  exact over_q hm (mod_pp _) (fun w => by have := less_r (m := pp) (n := 2) (Nat.le_of_lt two_lt) w; rwa [e] at this) (power_r hn h255) W0
end Go.Proofs.Ytgiemldmphbolaa

namespace Go.Proofs.Ytgiemldmphbolaa
open Go.RowKit
theorem dg_par (n : Nat) : dg n 0 % 2 = n % 2 := by unfold dg; rw [Nat.pow_zero, Nat.div_one]; omega

set_option maxHeartbeats 4000000 in
theorem rr_1e {m R e0 e1 e2 k : Nat} (hR : R < pp) (hE : ai 22 (updN (dg pp) 0 (dg pp 0 + 3)) = ai 22 (dg e0))
    (k1 : (∀ w, Calls Try.prog 70 #[.agg (ai 22 (dg e0))] w fun e w' => e = .returned (.agg (ai 22 (dg e1))) ∧ Below w.heap.size w w')) (k2 : (∀ w, Calls Try.prog 70 #[.agg (ai 22 (dg e1))] w fun e w' => e = .returned (.agg (ai 22 (dg e2))) ∧ Below w.heap.size w w')) (k3 : (∀ w, Calls Try.prog 70 #[.agg (ai 22 (dg e2))] w fun e w' => e = .returned (.agg (ai 22 (dg k))) ∧ Below w.heap.size w w')) (cP : (∀ w, Calls Try.prog 69 #[.agg (ai 22 (dg m)), .agg (ai 22 (dg k))] w fun e w' => e = .returned (.agg (ai 22 (dg R))) ∧ Below w.heap.size w w')) (h1 : R * R % pp = m) (hp : R % 2 = 0) (W0 : World) : Calls Try.prog 39 #[.agg (ai 22 (dg m))] W0 fun e w' => e = .returned (.tuple #[.agg (ai 22 (dg R)), .bool true]) ∧ Below W0.heap.size W0 w' := by
  have g1 := dg_lt pp 0
  have g2 := dg_par R
  refine sym_enter Try.func39 Try.ntmps39 rfl [.inl (.agg (ai 22 (dg m))), uu, uu, uu, uu, uu, uu, uu, uu, uu, uu, uu, uu, uu, uu, uu, uu, uu, uu, uu, uu, uu, uu, uu, uu, uu, uu, uu, uu, uu, uu, uu, uu, uu, uu, uu, uu, uu, uu, uu, uu, uu, uu, uu, uu] (by kernel_rfl) (by kernel_rfl) ?_
  intro β a h
  refine sym_seq ?_
  refine St.region h [.inl (.agg (ai 22 (dg m))), .inr (0, 0), .inr (1, 0), .inl (.bool false), uu, uu, uu, uu, uu, uu, uu, uu, uu, uu, uu, uu, uu, uu, uu, uu, uu, uu, uu, uu, uu, uu, uu, uu, uu, uu, uu, uu, uu, uu, uu, uu, uu, uu, uu, uu, uu, uu, uu, uu, uu] [(ai 22 (dg m), 35), (ai 22 (fun _ => 0), 35)] [(ai 22 (dg m), 35), (ai 22 (fun _ => 0), 35)] [#[], #[]] [⟨some 0, none, none, false⟩, ⟨some 1, none, none, false⟩, nn] (by kernel_rfl) (by kernel_rfl) (by kernel_rfl) (by kernel_rfl) (by kernel_rfl) (by kernel_rfl) (by kernel_rfl) (by kernel_rfl) ?_ ?_
  · refine ok_cons (ok_box (b := 0) (u := .agg (ai 22 (dg m))) (bx22 (F := (dg m))) rfl (by kernel_rfl) rfl (by kernel_rfl) (by kernel_rfl) (by kernel_rfl) (by kernel_rfl)) ?_
    refine ok_cons (ok_alloc (b := 1) al22 rfl (by kernel_rfl) rfl (by kernel_rfl) (by kernel_rfl)) ?_
    refine ok_cons (ok_mv (Or.inr rfl) (by kernel_rfl) rfl (by kernel_rfl) (by kernel_rfl)) ?_
    exact ok_nil
  clear h; intro β a w h
  refine sym_then ?_
  refine sym_seq ?_
  refine St.region h [.inl (.agg (ai 22 (dg m))), .inr (0, 0), .inr (1, 0), .inl (.bool false), .inr (2, 0), uu, .inl (.agg (ai 22 (dg pp))), uu, uu, uu, uu, uu, uu, uu, uu, uu, uu, uu, uu, uu, uu, uu, uu, uu, uu, uu, uu, uu, uu, uu, uu, uu, uu, uu, uu, uu, uu, uu, uu, uu, uu, uu, uu, uu, uu] [(ai 22 (dg m), 35), (ai 22 (fun _ => 0), 35), (ai 22 (dg pp), 35)] [(ai 22 (dg m), 35), (ai 22 (fun _ => 0), 35), (ai 22 (fun _ => 0), 35)] [#[], #[], ai 22 (dg pp)] [nn, ⟨some 2, none, none, false⟩, ⟨none, some 2, none, false⟩] (by kernel_rfl) (by kernel_rfl) (by kernel_rfl) (by kernel_rfl) (by kernel_rfl) (by kernel_rfl) (by kernel_rfl) (by kernel_rfl) ?_ ?_
  · refine ok_cons (ok_call (vs := #[]) (R := .agg (ai 22 (dg pp))) prime_r rfl (by kernel_rfl) rfl (by kernel_rfl) (by kernel_rfl) (by kernel_rfl) (fun w => by kernel_rfl)) ?_
    refine ok_cons (ok_alloc (b := 2) al22 rfl (by kernel_rfl) rfl (by kernel_rfl) (by kernel_rfl)) ?_
    refine ok_cons (ok_store (b := 2) (off := 0) (u := .agg (ai 22 (dg pp))) (c := ai 22 (fun _ => 0)) (n := ai 22 (dg pp)) (st22 (F := (dg pp)) (c := ai 22 (fun _ => 0)) 35 (ai_size _ _)) rfl (by kernel_rfl) rfl (by kernel_rfl) (by kernel_rfl) (by kernel_rfl) (by kernel_rfl) (by kernel_rfl)) ?_
    exact ok_nil
  clear h; intro β a w h
  refine sym_then ?_
  refine sym_seq ?_
  refine St.region h [.inl (.agg (ai 22 (dg m))), .inr (0, 0), .inr (1, 0), .inl (.bool false), .inr (2, 0), uu, .inl (.agg (ai 22 (dg pp))), .inr (2, 0), .inl (.int .i64 ((((dg pp) 0) : Nat) : Int)), .inl (.int .i64 (((((dg pp) 0) + 3) : Nat) : Int)), .inr (2, 0), uu, uu, uu, uu, uu, uu, uu, uu, uu, uu, uu, uu, uu, uu, uu, uu, uu, uu, uu, uu, uu, uu, uu, uu, uu, uu, uu, uu, uu, uu, uu, uu, uu, uu] [(ai 22 (dg m), 35), (ai 22 (fun _ => 0), 35), (ai 22 (updN (dg pp) 0 (((dg pp) 0) + 3)), 35)] [(ai 22 (dg m), 35), (ai 22 (fun _ => 0), 35), (ai 22 (dg pp), 35)] [#[], #[], ai 22 (updN (dg pp) 0 (((dg pp) 0) + 3))] [nn, ⟨none, none, some 2, false⟩, nn, nn, ⟨none, some 2, none, false⟩] (by kernel_rfl) (by kernel_rfl) (by kernel_rfl) (by kernel_rfl) (by kernel_rfl) (by kernel_rfl) (by kernel_rfl) (by kernel_rfl) ?_ ?_
  · refine ok_cons (ok_iaddr (b := 2) (off := 0) (off' := 0) (u := .int .i64 ((0 : Nat) : Int)) (ix22 (i := 0) (by omega)) rfl (by kernel_rfl) rfl (by kernel_rfl) (by kernel_rfl) (by kernel_rfl) (by kernel_rfl)) ?_
    refine ok_cons (ok_load (b := 2) (off := 0) (c := ai 22 (dg pp)) (v := .int .i64 ((((dg pp) 0) : Nat) : Int)) (ld_at (n := 22) (F := (dg pp)) (i := 0) (t0 := 35) (by omega)) rfl (by kernel_rfl) rfl (by kernel_rfl) (by kernel_rfl) (by kernel_rfl)) ?_
    refine ok_cons (ok_bin (x1 := .int .i64 ((((dg pp) 0) : Nat) : Int)) (u1 := .int .i64 ((3 : Nat) : Int)) (v := .int .i64 (((((dg pp) 0) + 3) : Nat) : Int)) (ad_i (m := ((dg pp) 0)) (n := 3) (by omega)) rfl (by kernel_rfl) rfl (by kernel_rfl) (by kernel_rfl) (by kernel_rfl) (by kernel_rfl) (by kernel_rfl)) ?_
    refine ok_cons (ok_iaddr (b := 2) (off := 0) (off' := 0) (u := .int .i64 ((0 : Nat) : Int)) (ix22 (i := 0) (by omega)) rfl (by kernel_rfl) rfl (by kernel_rfl) (by kernel_rfl) (by kernel_rfl) (by kernel_rfl)) ?_
    refine ok_cons (ok_store (b := 2) (off := 0) (u := .int .i64 (((((dg pp) 0) + 3) : Nat) : Int)) (c := ai 22 (dg pp)) (n := ai 22 (updN (dg pp) 0 (((dg pp) 0) + 3))) (st_at (n := 22) (F := (dg pp)) (i := 0) (v := (((dg pp) 0) + 3)) (t0 := 35) (by omega)) rfl (by kernel_rfl) rfl (by kernel_rfl) (by kernel_rfl) (by kernel_rfl) (by kernel_rfl) (by kernel_rfl)) ?_
    exact ok_nil
  clear h; intro β a w h
  replace h := St.setm h 2 (c := ai 22 (updN (dg pp) 0 (((dg pp) 0) + 3))) (c' := ai 22 (dg e0)) (t := 35) (m' := [(ai 22 (dg m), 35), (ai 22 (fun _ => 0), 35), (ai 22 (dg e0), 35)]) hE (by kernel_rfl) (by kernel_rfl)
  refine sym_then ?_
  refine sym_seq ?_
  refine St.region h [.inl (.agg (ai 22 (dg m))), .inr (0, 0), .inr (1, 0), .inl (.bool false), .inr (2, 0), .inr (3, 0), .inl (.agg (ai 22 (dg pp))), .inr (2, 0), .inl (.int .i64 ((((dg pp) 0) : Nat) : Int)), .inl (.int .i64 (((((dg pp) 0) + 3) : Nat) : Int)), .inr (2, 0), .inl (.agg (ai 22 (dg m))), .inl (.agg (ai 22 (dg e0))), .inl (.agg (ai 22 (dg e1))), .inl (.agg (ai 22 (dg e2))), .inl (.agg (ai 22 (dg k))), .inl (.agg (ai 22 (dg R))), uu, uu, uu, uu, uu, uu, uu, uu, uu, uu, uu, uu, uu, uu, uu, uu, uu, uu, uu, uu, uu, uu, uu, uu, uu, uu, uu, uu] [(ai 22 (dg m), 35), (ai 22 (fun _ => 0), 35), (ai 22 (dg e0), 35), (ai 22 (dg R), 35)] [(ai 22 (dg m), 35), (ai 22 (fun _ => 0), 35), (ai 22 (dg e0), 35), (ai 22 (fun _ => 0), 35)] [#[], #[], #[], ai 22 (dg R)] [⟨none, none, some 0, false⟩, ⟨none, none, some 2, false⟩, nn, nn, nn, nn, ⟨some 3, none, none, false⟩, ⟨none, some 3, none, false⟩] (by kernel_rfl) (by kernel_rfl) (by kernel_rfl) (by kernel_rfl) (by kernel_rfl) (by kernel_rfl) (by kernel_rfl) (by kernel_rfl) ?_ ?_
  · refine ok_cons (ok_load (b := 0) (off := 0) (c := ai 22 (dg m)) (v := .agg (ai 22 (dg m))) (ld22 (F := (dg m)) 35) rfl (by kernel_rfl) rfl (by kernel_rfl) (by kernel_rfl) (by kernel_rfl)) ?_
    refine ok_cons (ok_load (b := 2) (off := 0) (c := ai 22 (dg e0)) (v := .agg (ai 22 (dg e0))) (ld22 (F := (dg e0)) 35) rfl (by kernel_rfl) rfl (by kernel_rfl) (by kernel_rfl) (by kernel_rfl)) ?_
    refine ok_cons (ok_call (vs := #[.agg (ai 22 (dg e0))]) (R := .agg (ai 22 (dg e1))) k1 rfl (by kernel_rfl) rfl (by kernel_rfl) (by kernel_rfl) (by kernel_rfl) (fun w => by kernel_rfl)) ?_
    refine ok_cons (ok_call (vs := #[.agg (ai 22 (dg e1))]) (R := .agg (ai 22 (dg e2))) k2 rfl (by kernel_rfl) rfl (by kernel_rfl) (by kernel_rfl) (by kernel_rfl) (fun w => by kernel_rfl)) ?_
    refine ok_cons (ok_call (vs := #[.agg (ai 22 (dg e2))]) (R := .agg (ai 22 (dg k))) k3 rfl (by kernel_rfl) rfl (by kernel_rfl) (by kernel_rfl) (by kernel_rfl) (fun w => by kernel_rfl)) ?_
    refine ok_cons (ok_call (vs := #[.agg (ai 22 (dg m)), .agg (ai 22 (dg k))]) (R := .agg (ai 22 (dg R))) cP rfl (by kernel_rfl) rfl (by kernel_rfl) (by kernel_rfl) (by kernel_rfl) (fun w => by kernel_rfl)) ?_
    refine ok_cons (ok_alloc (b := 3) al22 rfl (by kernel_rfl) rfl (by kernel_rfl) (by kernel_rfl)) ?_
    refine ok_cons (ok_store (b := 3) (off := 0) (u := .agg (ai 22 (dg R))) (c := ai 22 (fun _ => 0)) (n := ai 22 (dg R)) (st22 (F := (dg R)) (c := ai 22 (fun _ => 0)) 35 (ai_size _ _)) rfl (by kernel_rfl) rfl (by kernel_rfl) (by kernel_rfl) (by kernel_rfl) (by kernel_rfl) (by kernel_rfl)) ?_
    exact ok_nil
  clear h; intro β a w h
  refine sym_then ?_
  refine sym_seq ?_
  refine sym_seq ?_
  refine St.region h [.inl (.agg (ai 22 (dg m))), .inr (0, 0), .inr (1, 0), .inl (.bool false), .inr (2, 0), .inr (3, 0), .inl (.agg (ai 22 (dg pp))), .inr (2, 0), .inl (.int .i64 ((((dg pp) 0) : Nat) : Int)), .inl (.int .i64 (((((dg pp) 0) + 3) : Nat) : Int)), .inr (2, 0), .inl (.agg (ai 22 (dg m))), .inl (.agg (ai 22 (dg e0))), .inl (.agg (ai 22 (dg e1))), .inl (.agg (ai 22 (dg e2))), .inl (.agg (ai 22 (dg k))), .inl (.agg (ai 22 (dg R))), .inl (.agg (ai 22 (dg R))), .inl (.agg (ai 22 (dg R))), .inl (.agg (ai 22 (dg (R * R % pp)))), .inl (.agg (ai 22 (dg m))), .inl (.bool false), uu, uu, uu, uu, uu, uu, uu, uu, uu, uu, uu, uu, uu, uu, uu, uu, uu, uu, uu, uu, uu, uu, uu] [(ai 22 (dg m), 35), (ai 22 (fun _ => 0), 35), (ai 22 (dg e0), 35), (ai 22 (dg R), 35)] [(ai 22 (dg m), 35), (ai 22 (fun _ => 0), 35), (ai 22 (dg e0), 35), (ai 22 (dg R), 35)] [#[], #[], #[], #[]] [⟨none, none, some 3, false⟩, ⟨none, none, some 3, false⟩, nn, ⟨none, none, some 0, false⟩, nn] (by kernel_rfl) (by kernel_rfl) (by kernel_rfl) (by kernel_rfl) (by kernel_rfl) (by kernel_rfl) (by kernel_rfl) (by kernel_rfl) ?_ ?_
  · refine ok_cons (ok_load (b := 3) (off := 0) (c := ai 22 (dg R)) (v := .agg (ai 22 (dg R))) (ld22 (F := (dg R)) 35) rfl (by kernel_rfl) rfl (by kernel_rfl) (by kernel_rfl) (by kernel_rfl)) ?_
    refine ok_cons (ok_load (b := 3) (off := 0) (c := ai 22 (dg R)) (v := .agg (ai 22 (dg R))) (ld22 (F := (dg R)) 35) rfl (by kernel_rfl) rfl (by kernel_rfl) (by kernel_rfl) (by kernel_rfl)) ?_
    refine ok_cons (ok_call (vs := #[.agg (ai 22 (dg R)), .agg (ai 22 (dg R))]) (R := .agg (ai 22 (dg (R * R % pp)))) (fun w => times_r (m := R) (n := R) (lt_big (by first | exact mod_pp _ | assumption)) (lt_big (by first | exact mod_pp _ | assumption)) w) rfl (by kernel_rfl) rfl (by kernel_rfl) (by kernel_rfl) (by kernel_rfl) (fun w => by kernel_rfl)) ?_
    refine ok_cons (ok_load (b := 0) (off := 0) (c := ai 22 (dg m)) (v := .agg (ai 22 (dg m))) (ld22 (F := (dg m)) 35) rfl (by kernel_rfl) rfl (by kernel_rfl) (by kernel_rfl) (by kernel_rfl)) ?_
    refine ok_cons (ok_bin (x1 := .agg (ai 22 (dg (R * R % pp)))) (u1 := .agg (ai 22 (dg m))) (v := .bool false) (fun w => by rw [h1]; exact ne22_f m w) rfl (by kernel_rfl) rfl (by kernel_rfl) (by kernel_rfl) (by kernel_rfl) (by kernel_rfl) (by kernel_rfl)) ?_
    exact ok_nil
  clear h; intro β a w h
  refine sym_then ?_
  refine sym_cond_f h (by kernel_rfl) (by kernel_rfl) ?_
  refine wp_skip ?_
  refine sym_then ?_
  refine sym_seq ?_
  refine sym_seq ?_
  refine St.region h [.inl (.agg (ai 22 (dg m))), .inr (0, 0), .inr (1, 0), .inl (.bool false), .inr (2, 0), .inr (3, 0), .inl (.agg (ai 22 (dg pp))), .inr (2, 0), .inl (.int .i64 ((((dg pp) 0) : Nat) : Int)), .inl (.int .i64 (((((dg pp) 0) + 3) : Nat) : Int)), .inr (2, 0), .inl (.agg (ai 22 (dg m))), .inl (.agg (ai 22 (dg e0))), .inl (.agg (ai 22 (dg e1))), .inl (.agg (ai 22 (dg e2))), .inl (.agg (ai 22 (dg k))), .inl (.agg (ai 22 (dg R))), .inl (.agg (ai 22 (dg R))), .inl (.agg (ai 22 (dg R))), .inl (.agg (ai 22 (dg (R * R % pp)))), .inl (.agg (ai 22 (dg m))), .inl (.bool false), uu, uu, uu, uu, uu, uu, uu, uu, uu, .inl (.agg (ai 22 (dg R))), .inl (.agg (ai 22 (dg R))), .inl (.agg (ai 22 (dg (R * R % pp)))), .inl (.agg (ai 22 (dg m))), .inl (.bool false), uu, uu, uu, uu, uu, uu, uu, uu, uu] [(ai 22 (dg m), 35), (ai 22 (fun _ => 0), 35), (ai 22 (dg e0), 35), (ai 22 (dg R), 35)] [(ai 22 (dg m), 35), (ai 22 (fun _ => 0), 35), (ai 22 (dg e0), 35), (ai 22 (dg R), 35)] [#[], #[], #[], #[]] [⟨none, none, some 3, false⟩, ⟨none, none, some 3, false⟩, nn, ⟨none, none, some 0, false⟩, nn] (by kernel_rfl) (by kernel_rfl) (by kernel_rfl) (by kernel_rfl) (by kernel_rfl) (by kernel_rfl) (by kernel_rfl) (by kernel_rfl) ?_ ?_
  · refine ok_cons (ok_load (b := 3) (off := 0) (c := ai 22 (dg R)) (v := .agg (ai 22 (dg R))) (ld22 (F := (dg R)) 35) rfl (by kernel_rfl) rfl (by kernel_rfl) (by kernel_rfl) (by kernel_rfl)) ?_
    refine ok_cons (ok_load (b := 3) (off := 0) (c := ai 22 (dg R)) (v := .agg (ai 22 (dg R))) (ld22 (F := (dg R)) 35) rfl (by kernel_rfl) rfl (by kernel_rfl) (by kernel_rfl) (by kernel_rfl)) ?_
    refine ok_cons (ok_call (vs := #[.agg (ai 22 (dg R)), .agg (ai 22 (dg R))]) (R := .agg (ai 22 (dg (R * R % pp)))) (fun w => times_r (m := R) (n := R) (lt_big (by first | exact mod_pp _ | assumption)) (lt_big (by first | exact mod_pp _ | assumption)) w) rfl (by kernel_rfl) rfl (by kernel_rfl) (by kernel_rfl) (by kernel_rfl) (fun w => by kernel_rfl)) ?_
    refine ok_cons (ok_load (b := 0) (off := 0) (c := ai 22 (dg m)) (v := .agg (ai 22 (dg m))) (ld22 (F := (dg m)) 35) rfl (by kernel_rfl) rfl (by kernel_rfl) (by kernel_rfl) (by kernel_rfl)) ?_
    refine ok_cons (ok_bin (x1 := .agg (ai 22 (dg (R * R % pp)))) (u1 := .agg (ai 22 (dg m))) (v := .bool false) (fun w => by rw [h1]; exact ne22_f m w) rfl (by kernel_rfl) rfl (by kernel_rfl) (by kernel_rfl) (by kernel_rfl) (by kernel_rfl) (by kernel_rfl)) ?_
    exact ok_nil
  clear h; intro β a w h
  refine sym_then ?_
  refine sym_cond_f h (by kernel_rfl) (by kernel_rfl) ?_
  refine wp_skip ?_
  refine sym_then ?_
  refine sym_seq ?_
  refine sym_seq ?_
  refine St.region h [.inl (.agg (ai 22 (dg m))), .inr (0, 0), .inr (1, 0), .inl (.bool false), .inr (2, 0), .inr (3, 0), .inl (.agg (ai 22 (dg pp))), .inr (2, 0), .inl (.int .i64 ((((dg pp) 0) : Nat) : Int)), .inl (.int .i64 (((((dg pp) 0) + 3) : Nat) : Int)), .inr (2, 0), .inl (.agg (ai 22 (dg m))), .inl (.agg (ai 22 (dg e0))), .inl (.agg (ai 22 (dg e1))), .inl (.agg (ai 22 (dg e2))), .inl (.agg (ai 22 (dg k))), .inl (.agg (ai 22 (dg R))), .inl (.agg (ai 22 (dg R))), .inl (.agg (ai 22 (dg R))), .inl (.agg (ai 22 (dg (R * R % pp)))), .inl (.agg (ai 22 (dg m))), .inl (.bool false), uu, uu, uu, uu, uu, uu, uu, uu, uu, .inl (.agg (ai 22 (dg R))), .inl (.agg (ai 22 (dg R))), .inl (.agg (ai 22 (dg (R * R % pp)))), .inl (.agg (ai 22 (dg m))), .inl (.bool false), uu, .inr (3, 0), .inl (.int .i64 ((((dg R) 0) : Nat) : Int)), .inl (.int .i64 (((((dg R) 0) % 2) : Nat) : Int)), .inl (.bool false), uu, uu, uu, uu] [(ai 22 (dg m), 35), (ai 22 (fun _ => 0), 35), (ai 22 (dg e0), 35), (ai 22 (dg R), 35)] [(ai 22 (dg m), 35), (ai 22 (fun _ => 0), 35), (ai 22 (dg e0), 35), (ai 22 (dg R), 35)] [#[], #[], #[], #[]] [nn, ⟨none, none, some 3, false⟩, nn, nn] (by kernel_rfl) (by kernel_rfl) (by kernel_rfl) (by kernel_rfl) (by kernel_rfl) (by kernel_rfl) (by kernel_rfl) (by kernel_rfl) ?_ ?_
  · refine ok_cons (ok_iaddr (b := 3) (off := 0) (off' := 0) (u := .int .i64 ((0 : Nat) : Int)) (ix22 (i := 0) (by omega)) rfl (by kernel_rfl) rfl (by kernel_rfl) (by kernel_rfl) (by kernel_rfl) (by kernel_rfl)) ?_
    refine ok_cons (ok_load (b := 3) (off := 0) (c := ai 22 (dg R)) (v := .int .i64 ((((dg R) 0) : Nat) : Int)) (ld_at (n := 22) (F := (dg R)) (i := 0) (t0 := 35) (by omega)) rfl (by kernel_rfl) rfl (by kernel_rfl) (by kernel_rfl) (by kernel_rfl)) ?_
    refine ok_cons (ok_bin (x1 := .int .i64 ((((dg R) 0) : Nat) : Int)) (u1 := .int .i64 ((2 : Nat) : Int)) (v := .int .i64 (((((dg R) 0) % 2) : Nat) : Int)) (re_i (m := ((dg R) 0)) (n := 2) (by decide)) rfl (by kernel_rfl) rfl (by kernel_rfl) (by kernel_rfl) (by kernel_rfl) (by kernel_rfl) (by kernel_rfl)) ?_
    refine ok_cons (ok_bin (x1 := .int .i64 (((((dg R) 0) % 2) : Nat) : Int)) (u1 := .int .i64 ((1 : Nat) : Int)) (v := .bool false) (eq_i (m := (((((dg R) 0) % 2) : Nat) : Int)) (n := ((1 : Nat) : Int)) (decide_eq_false (by omega))) rfl (by kernel_rfl) rfl (by kernel_rfl) (by kernel_rfl) (by kernel_rfl) (by kernel_rfl) (by kernel_rfl)) ?_
    exact ok_nil
  clear h; intro β a w h
  refine sym_then ?_
  refine sym_cond_f h (by kernel_rfl) (by kernel_rfl) ?_
  refine wp_skip ?_
  refine sym_then ?_
  refine sym_seq ?_
  refine St.region h [.inl (.agg (ai 22 (dg m))), .inr (0, 0), .inr (1, 0), .inl (.bool true), .inr (2, 0), .inr (3, 0), .inl (.agg (ai 22 (dg pp))), .inr (2, 0), .inl (.int .i64 ((((dg pp) 0) : Nat) : Int)), .inl (.int .i64 (((((dg pp) 0) + 3) : Nat) : Int)), .inr (2, 0), .inl (.agg (ai 22 (dg m))), .inl (.agg (ai 22 (dg e0))), .inl (.agg (ai 22 (dg e1))), .inl (.agg (ai 22 (dg e2))), .inl (.agg (ai 22 (dg k))), .inl (.agg (ai 22 (dg R))), .inl (.agg (ai 22 (dg R))), .inl (.agg (ai 22 (dg R))), .inl (.agg (ai 22 (dg (R * R % pp)))), .inl (.agg (ai 22 (dg m))), .inl (.bool false), uu, uu, uu, uu, uu, uu, uu, uu, uu, .inl (.agg (ai 22 (dg R))), .inl (.agg (ai 22 (dg R))), .inl (.agg (ai 22 (dg (R * R % pp)))), .inl (.agg (ai 22 (dg m))), .inl (.bool false), uu, .inr (3, 0), .inl (.int .i64 ((((dg R) 0) : Nat) : Int)), .inl (.int .i64 (((((dg R) 0) % 2) : Nat) : Int)), .inl (.bool false), uu, uu, uu, .inl (.agg (ai 22 (dg R)))] [(ai 22 (dg m), 35), (ai 22 (dg R), 35), (ai 22 (dg e0), 35), (ai 22 (dg R), 35)] [(ai 22 (dg m), 35), (ai 22 (fun _ => 0), 35), (ai 22 (dg e0), 35), (ai 22 (dg R), 35)] [#[], ai 22 (dg R), #[], #[]] [⟨none, none, some 3, false⟩, ⟨none, some 1, none, false⟩, nn] (by kernel_rfl) (by kernel_rfl) (by kernel_rfl) (by kernel_rfl) (by kernel_rfl) (by kernel_rfl) (by kernel_rfl) (by kernel_rfl) ?_ ?_
  · refine ok_cons (ok_load (b := 3) (off := 0) (c := ai 22 (dg R)) (v := .agg (ai 22 (dg R))) (ld22 (F := (dg R)) 35) rfl (by kernel_rfl) rfl (by kernel_rfl) (by kernel_rfl) (by kernel_rfl)) ?_
    refine ok_cons (ok_store (b := 1) (off := 0) (u := .agg (ai 22 (dg R))) (c := ai 22 (fun _ => 0)) (n := ai 22 (dg R)) (st22 (F := (dg R)) (c := ai 22 (fun _ => 0)) 35 (ai_size _ _)) rfl (by kernel_rfl) rfl (by kernel_rfl) (by kernel_rfl) (by kernel_rfl) (by kernel_rfl) (by kernel_rfl)) ?_
    refine ok_cons (ok_mv (Or.inr rfl) (by kernel_rfl) rfl (by kernel_rfl) (by kernel_rfl)) ?_
    exact ok_nil
  clear h; intro β a w h
  refine sym_then ?_
  refine wp_ret ?_
  exact sym_ret2 (b := 1) (t0 := 35) (c := ai 22 (dg R)) h Try.results39 (by kernel_rfl) (by kernel_rfl) (by kernel_rfl) (by kernel_rfl) (by kernel_rfl) Try.underlying35 rfl (by rw [ai_size]; kernel_rfl) (fun hb => ⟨rfl, hb⟩)

set_option maxHeartbeats 4000000 in
theorem rr_1o {m R e0 e1 e2 k : Nat} (hR : R < pp) (hE : ai 22 (updN (dg pp) 0 (dg pp 0 + 3)) = ai 22 (dg e0))
    (k1 : (∀ w, Calls Try.prog 70 #[.agg (ai 22 (dg e0))] w fun e w' => e = .returned (.agg (ai 22 (dg e1))) ∧ Below w.heap.size w w')) (k2 : (∀ w, Calls Try.prog 70 #[.agg (ai 22 (dg e1))] w fun e w' => e = .returned (.agg (ai 22 (dg e2))) ∧ Below w.heap.size w w')) (k3 : (∀ w, Calls Try.prog 70 #[.agg (ai 22 (dg e2))] w fun e w' => e = .returned (.agg (ai 22 (dg k))) ∧ Below w.heap.size w w')) (cP : (∀ w, Calls Try.prog 69 #[.agg (ai 22 (dg m)), .agg (ai 22 (dg k))] w fun e w' => e = .returned (.agg (ai 22 (dg R))) ∧ Below w.heap.size w w')) (h1 : R * R % pp = m) (hp : R % 2 = 1) (W0 : World) : Calls Try.prog 39 #[.agg (ai 22 (dg m))] W0 fun e w' => e = .returned (.tuple #[.agg (ai 22 (dg (pp - R))), .bool true]) ∧ Below W0.heap.size W0 w' := by
  have g1 := dg_lt pp 0
  have g2 := dg_par R
  refine sym_enter Try.func39 Try.ntmps39 rfl [.inl (.agg (ai 22 (dg m))), uu, uu, uu, uu, uu, uu, uu, uu, uu, uu, uu, uu, uu, uu, uu, uu, uu, uu, uu, uu, uu, uu, uu, uu, uu, uu, uu, uu, uu, uu, uu, uu, uu, uu, uu, uu, uu, uu, uu, uu, uu, uu, uu, uu] (by kernel_rfl) (by kernel_rfl) ?_
  intro β a h
  refine sym_seq ?_
  refine St.region h [.inl (.agg (ai 22 (dg m))), .inr (0, 0), .inr (1, 0), .inl (.bool false), uu, uu, uu, uu, uu, uu, uu, uu, uu, uu, uu, uu, uu, uu, uu, uu, uu, uu, uu, uu, uu, uu, uu, uu, uu, uu, uu, uu, uu, uu, uu, uu, uu, uu, uu, uu, uu, uu, uu, uu, uu] [(ai 22 (dg m), 35), (ai 22 (fun _ => 0), 35)] [(ai 22 (dg m), 35), (ai 22 (fun _ => 0), 35)] [#[], #[]] [⟨some 0, none, none, false⟩, ⟨some 1, none, none, false⟩, nn] (by kernel_rfl) (by kernel_rfl) (by kernel_rfl) (by kernel_rfl) (by kernel_rfl) (by kernel_rfl) (by kernel_rfl) (by kernel_rfl) ?_ ?_
  · refine ok_cons (ok_box (b := 0) (u := .agg (ai 22 (dg m))) (bx22 (F := (dg m))) rfl (by kernel_rfl) rfl (by kernel_rfl) (by kernel_rfl) (by kernel_rfl) (by kernel_rfl)) ?_
    refine ok_cons (ok_alloc (b := 1) al22 rfl (by kernel_rfl) rfl (by kernel_rfl) (by kernel_rfl)) ?_
    refine ok_cons (ok_mv (Or.inr rfl) (by kernel_rfl) rfl (by kernel_rfl) (by kernel_rfl)) ?_
    exact ok_nil
  clear h; intro β a w h
  refine sym_then ?_
  refine sym_seq ?_
  refine St.region h [.inl (.agg (ai 22 (dg m))), .inr (0, 0), .inr (1, 0), .inl (.bool false), .inr (2, 0), uu, .inl (.agg (ai 22 (dg pp))), uu, uu, uu, uu, uu, uu, uu, uu, uu, uu, uu, uu, uu, uu, uu, uu, uu, uu, uu, uu, uu, uu, uu, uu, uu, uu, uu, uu, uu, uu, uu, uu, uu, uu, uu, uu, uu, uu] [(ai 22 (dg m), 35), (ai 22 (fun _ => 0), 35), (ai 22 (dg pp), 35)] [(ai 22 (dg m), 35), (ai 22 (fun _ => 0), 35), (ai 22 (fun _ => 0), 35)] [#[], #[], ai 22 (dg pp)] [nn, ⟨some 2, none, none, false⟩, ⟨none, some 2, none, false⟩] (by kernel_rfl) (by kernel_rfl) (by kernel_rfl) (by kernel_rfl) (by kernel_rfl) (by kernel_rfl) (by kernel_rfl) (by kernel_rfl) ?_ ?_
  · refine ok_cons (ok_call (vs := #[]) (R := .agg (ai 22 (dg pp))) prime_r rfl (by kernel_rfl) rfl (by kernel_rfl) (by kernel_rfl) (by kernel_rfl) (fun w => by kernel_rfl)) ?_
    refine ok_cons (ok_alloc (b := 2) al22 rfl (by kernel_rfl) rfl (by kernel_rfl) (by kernel_rfl)) ?_
    refine ok_cons (ok_store (b := 2) (off := 0) (u := .agg (ai 22 (dg pp))) (c := ai 22 (fun _ => 0)) (n := ai 22 (dg pp)) (st22 (F := (dg pp)) (c := ai 22 (fun _ => 0)) 35 (ai_size _ _)) rfl (by kernel_rfl) rfl (by kernel_rfl) (by kernel_rfl) (by kernel_rfl) (by kernel_rfl) (by kernel_rfl)) ?_
    exact ok_nil
  clear h; intro β a w h
  refine sym_then ?_
  refine sym_seq ?_
  refine St.region h [.inl (.agg (ai 22 (dg m))), .inr (0, 0), .inr (1, 0), .inl (.bool false), .inr (2, 0), uu, .inl (.agg (ai 22 (dg pp))), .inr (2, 0), .inl (.int .i64 ((((dg pp) 0) : Nat) : Int)), .inl (.int .i64 (((((dg pp) 0) + 3) : Nat) : Int)), .inr (2, 0), uu, uu, uu, uu, uu, uu, uu, uu, uu, uu, uu, uu, uu, uu, uu, uu, uu, uu, uu, uu, uu, uu, uu, uu, uu, uu, uu, uu, uu, uu, uu, uu, uu, uu] [(ai 22 (dg m), 35), (ai 22 (fun _ => 0), 35), (ai 22 (updN (dg pp) 0 (((dg pp) 0) + 3)), 35)] [(ai 22 (dg m), 35), (ai 22 (fun _ => 0), 35), (ai 22 (dg pp), 35)] [#[], #[], ai 22 (updN (dg pp) 0 (((dg pp) 0) + 3))] [nn, ⟨none, none, some 2, false⟩, nn, nn, ⟨none, some 2, none, false⟩] (by kernel_rfl) (by kernel_rfl) (by kernel_rfl) (by kernel_rfl) (by kernel_rfl) (by kernel_rfl) (by kernel_rfl) (by kernel_rfl) ?_ ?_
  · refine ok_cons (ok_iaddr (b := 2) (off := 0) (off' := 0) (u := .int .i64 ((0 : Nat) : Int)) (ix22 (i := 0) (by omega)) rfl (by kernel_rfl) rfl (by kernel_rfl) (by kernel_rfl) (by kernel_rfl) (by kernel_rfl)) ?_
    refine ok_cons (ok_load (b := 2) (off := 0) (c := ai 22 (dg pp)) (v := .int .i64 ((((dg pp) 0) : Nat) : Int)) (ld_at (n := 22) (F := (dg pp)) (i := 0) (t0 := 35) (by omega)) rfl (by kernel_rfl) rfl (by kernel_rfl) (by kernel_rfl) (by kernel_rfl)) ?_
    refine ok_cons (ok_bin (x1 := .int .i64 ((((dg pp) 0) : Nat) : Int)) (u1 := .int .i64 ((3 : Nat) : Int)) (v := .int .i64 (((((dg pp) 0) + 3) : Nat) : Int)) (ad_i (m := ((dg pp) 0)) (n := 3) (by omega)) rfl (by kernel_rfl) rfl (by kernel_rfl) (by kernel_rfl) (by kernel_rfl) (by kernel_rfl) (by kernel_rfl)) ?_
    refine ok_cons (ok_iaddr (b := 2) (off := 0) (off' := 0) (u := .int .i64 ((0 : Nat) : Int)) (ix22 (i := 0) (by omega)) rfl (by kernel_rfl) rfl (by kernel_rfl) (by kernel_rfl) (by kernel_rfl) (by kernel_rfl)) ?_
    refine ok_cons (ok_store (b := 2) (off := 0) (u := .int .i64 (((((dg pp) 0) + 3) : Nat) : Int)) (c := ai 22 (dg pp)) (n := ai 22 (updN (dg pp) 0 (((dg pp) 0) + 3))) (st_at (n := 22) (F := (dg pp)) (i := 0) (v := (((dg pp) 0) + 3)) (t0 := 35) (by omega)) rfl (by kernel_rfl) rfl (by kernel_rfl) (by kernel_rfl) (by kernel_rfl) (by kernel_rfl) (by kernel_rfl)) ?_
    exact ok_nil
  clear h; intro β a w h
  replace h := St.setm h 2 (c := ai 22 (updN (dg pp) 0 (((dg pp) 0) + 3))) (c' := ai 22 (dg e0)) (t := 35) (m' := [(ai 22 (dg m), 35), (ai 22 (fun _ => 0), 35), (ai 22 (dg e0), 35)]) hE (by kernel_rfl) (by kernel_rfl)
  refine sym_then ?_
  refine sym_seq ?_
  refine St.region h [.inl (.agg (ai 22 (dg m))), .inr (0, 0), .inr (1, 0), .inl (.bool false), .inr (2, 0), .inr (3, 0), .inl (.agg (ai 22 (dg pp))), .inr (2, 0), .inl (.int .i64 ((((dg pp) 0) : Nat) : Int)), .inl (.int .i64 (((((dg pp) 0) + 3) : Nat) : Int)), .inr (2, 0), .inl (.agg (ai 22 (dg m))), .inl (.agg (ai 22 (dg e0))), .inl (.agg (ai 22 (dg e1))), .inl (.agg (ai 22 (dg e2))), .inl (.agg (ai 22 (dg k))), .inl (.agg (ai 22 (dg R))), uu, uu, uu, uu, uu, uu, uu, uu, uu, uu, uu, uu, uu, uu, uu, uu, uu, uu, uu, uu, uu, uu, uu, uu, uu, uu, uu, uu] [(ai 22 (dg m), 35), (ai 22 (fun _ => 0), 35), (ai 22 (dg e0), 35), (ai 22 (dg R), 35)] [(ai 22 (dg m), 35), (ai 22 (fun _ => 0), 35), (ai 22 (dg e0), 35), (ai 22 (fun _ => 0), 35)] [#[], #[], #[], ai 22 (dg R)] [⟨none, none, some 0, false⟩, ⟨none, none, some 2, false⟩, nn, nn, nn, nn, ⟨some 3, none, none, false⟩, ⟨none, some 3, none, false⟩] (by kernel_rfl) (by kernel_rfl) (by kernel_rfl) (by kernel_rfl) (by kernel_rfl) (by kernel_rfl) (by kernel_rfl) (by kernel_rfl) ?_ ?_
  · refine ok_cons (ok_load (b := 0) (off := 0) (c := ai 22 (dg m)) (v := .agg (ai 22 (dg m))) (ld22 (F := (dg m)) 35) rfl (by kernel_rfl) rfl (by kernel_rfl) (by kernel_rfl) (by kernel_rfl)) ?_
    refine ok_cons (ok_load (b := 2) (off := 0) (c := ai 22 (dg e0)) (v := .agg (ai 22 (dg e0))) (ld22 (F := (dg e0)) 35) rfl (by kernel_rfl) rfl (by kernel_rfl) (by kernel_rfl) (by kernel_rfl)) ?_
    refine ok_cons (ok_call (vs := #[.agg (ai 22 (dg e0))]) (R := .agg (ai 22 (dg e1))) k1 rfl (by kernel_rfl) rfl (by kernel_rfl) (by kernel_rfl) (by kernel_rfl) (fun w => by kernel_rfl)) ?_
    refine ok_cons (ok_call (vs := #[.agg (ai 22 (dg e1))]) (R := .agg (ai 22 (dg e2))) k2 rfl (by kernel_rfl) rfl (by kernel_rfl) (by kernel_rfl) (by kernel_rfl) (fun w => by kernel_rfl)) ?_
    refine ok_cons (ok_call (vs := #[.agg (ai 22 (dg e2))]) (R := .agg (ai 22 (dg k))) k3 rfl (by kernel_rfl) rfl (by kernel_rfl) (by kernel_rfl) (by kernel_rfl) (fun w => by kernel_rfl)) ?_
    refine ok_cons (ok_call (vs := #[.agg (ai 22 (dg m)), .agg (ai 22 (dg k))]) (R := .agg (ai 22 (dg R))) cP rfl (by kernel_rfl) rfl (by kernel_rfl) (by kernel_rfl) (by kernel_rfl) (fun w => by kernel_rfl)) ?_
    refine ok_cons (ok_alloc (b := 3) al22 rfl (by kernel_rfl) rfl (by kernel_rfl) (by kernel_rfl)) ?_
    refine ok_cons (ok_store (b := 3) (off := 0) (u := .agg (ai 22 (dg R))) (c := ai 22 (fun _ => 0)) (n := ai 22 (dg R)) (st22 (F := (dg R)) (c := ai 22 (fun _ => 0)) 35 (ai_size _ _)) rfl (by kernel_rfl) rfl (by kernel_rfl) (by kernel_rfl) (by kernel_rfl) (by kernel_rfl) (by kernel_rfl)) ?_
    exact ok_nil
  clear h; intro β a w h
  refine sym_then ?_
  refine sym_seq ?_
  refine sym_seq ?_
  refine St.region h [.inl (.agg (ai 22 (dg m))), .inr (0, 0), .inr (1, 0), .inl (.bool false), .inr (2, 0), .inr (3, 0), .inl (.agg (ai 22 (dg pp))), .inr (2, 0), .inl (.int .i64 ((((dg pp) 0) : Nat) : Int)), .inl (.int .i64 (((((dg pp) 0) + 3) : Nat) : Int)), .inr (2, 0), .inl (.agg (ai 22 (dg m))), .inl (.agg (ai 22 (dg e0))), .inl (.agg (ai 22 (dg e1))), .inl (.agg (ai 22 (dg e2))), .inl (.agg (ai 22 (dg k))), .inl (.agg (ai 22 (dg R))), .inl (.agg (ai 22 (dg R))), .inl (.agg (ai 22 (dg R))), .inl (.agg (ai 22 (dg (R * R % pp)))), .inl (.agg (ai 22 (dg m))), .inl (.bool false), uu, uu, uu, uu, uu, uu, uu, uu, uu, uu, uu, uu, uu, uu, uu, uu, uu, uu, uu, uu, uu, uu, uu] [(ai 22 (dg m), 35), (ai 22 (fun _ => 0), 35), (ai 22 (dg e0), 35), (ai 22 (dg R), 35)] [(ai 22 (dg m), 35), (ai 22 (fun _ => 0), 35), (ai 22 (dg e0), 35), (ai 22 (dg R), 35)] [#[], #[], #[], #[]] [⟨none, none, some 3, false⟩, ⟨none, none, some 3, false⟩, nn, ⟨none, none, some 0, false⟩, nn] (by kernel_rfl) (by kernel_rfl) (by kernel_rfl) (by kernel_rfl) (by kernel_rfl) (by kernel_rfl) (by kernel_rfl) (by kernel_rfl) ?_ ?_
  · refine ok_cons (ok_load (b := 3) (off := 0) (c := ai 22 (dg R)) (v := .agg (ai 22 (dg R))) (ld22 (F := (dg R)) 35) rfl (by kernel_rfl) rfl (by kernel_rfl) (by kernel_rfl) (by kernel_rfl)) ?_
    refine ok_cons (ok_load (b := 3) (off := 0) (c := ai 22 (dg R)) (v := .agg (ai 22 (dg R))) (ld22 (F := (dg R)) 35) rfl (by kernel_rfl) rfl (by kernel_rfl) (by kernel_rfl) (by kernel_rfl)) ?_
    refine ok_cons (ok_call (vs := #[.agg (ai 22 (dg R)), .agg (ai 22 (dg R))]) (R := .agg (ai 22 (dg (R * R % pp)))) (fun w => times_r (m := R) (n := R) (lt_big (by first | exact mod_pp _ | assumption)) (lt_big (by first | exact mod_pp _ | assumption)) w) rfl (by kernel_rfl) rfl (by kernel_rfl) (by kernel_rfl) (by kernel_rfl) (fun w => by kernel_rfl)) ?_
    refine ok_cons (ok_load (b := 0) (off := 0) (c := ai 22 (dg m)) (v := .agg (ai 22 (dg m))) (ld22 (F := (dg m)) 35) rfl (by kernel_rfl) rfl (by kernel_rfl) (by kernel_rfl) (by kernel_rfl)) ?_
    refine ok_cons (ok_bin (x1 := .agg (ai 22 (dg (R * R % pp)))) (u1 := .agg (ai 22 (dg m))) (v := .bool false) (fun w => by rw [h1]; exact ne22_f m w) rfl (by kernel_rfl) rfl (by kernel_rfl) (by kernel_rfl) (by kernel_rfl) (by kernel_rfl) (by kernel_rfl)) ?_
    exact ok_nil
  clear h; intro β a w h
  refine sym_then ?_
  refine sym_cond_f h (by kernel_rfl) (by kernel_rfl) ?_
  refine wp_skip ?_
  refine sym_then ?_
  refine sym_seq ?_
  refine sym_seq ?_
  refine St.region h [.inl (.agg (ai 22 (dg m))), .inr (0, 0), .inr (1, 0), .inl (.bool false), .inr (2, 0), .inr (3, 0), .inl (.agg (ai 22 (dg pp))), .inr (2, 0), .inl (.int .i64 ((((dg pp) 0) : Nat) : Int)), .inl (.int .i64 (((((dg pp) 0) + 3) : Nat) : Int)), .inr (2, 0), .inl (.agg (ai 22 (dg m))), .inl (.agg (ai 22 (dg e0))), .inl (.agg (ai 22 (dg e1))), .inl (.agg (ai 22 (dg e2))), .inl (.agg (ai 22 (dg k))), .inl (.agg (ai 22 (dg R))), .inl (.agg (ai 22 (dg R))), .inl (.agg (ai 22 (dg R))), .inl (.agg (ai 22 (dg (R * R % pp)))), .inl (.agg (ai 22 (dg m))), .inl (.bool false), uu, uu, uu, uu, uu, uu, uu, uu, uu, .inl (.agg (ai 22 (dg R))), .inl (.agg (ai 22 (dg R))), .inl (.agg (ai 22 (dg (R * R % pp)))), .inl (.agg (ai 22 (dg m))), .inl (.bool false), uu, uu, uu, uu, uu, uu, uu, uu, uu] [(ai 22 (dg m), 35), (ai 22 (fun _ => 0), 35), (ai 22 (dg e0), 35), (ai 22 (dg R), 35)] [(ai 22 (dg m), 35), (ai 22 (fun _ => 0), 35), (ai 22 (dg e0), 35), (ai 22 (dg R), 35)] [#[], #[], #[], #[]] [⟨none, none, some 3, false⟩, ⟨none, none, some 3, false⟩, nn, ⟨none, none, some 0, false⟩, nn] (by kernel_rfl) (by kernel_rfl) (by kernel_rfl) (by kernel_rfl) (by kernel_rfl) (by kernel_rfl) (by kernel_rfl) (by kernel_rfl) ?_ ?_
  · refine ok_cons (ok_load (b := 3) (off := 0) (c := ai 22 (dg R)) (v := .agg (ai 22 (dg R))) (ld22 (F := (dg R)) 35) rfl (by kernel_rfl) rfl (by kernel_rfl) (by kernel_rfl) (by kernel_rfl)) ?_
    refine ok_cons (ok_load (b := 3) (off := 0) (c := ai 22 (dg R)) (v := .agg (ai 22 (dg R))) (ld22 (F := (dg R)) 35) rfl (by kernel_rfl) rfl (by kernel_rfl) (by kernel_rfl) (by kernel_rfl)) ?_
    refine ok_cons (ok_call (vs := #[.agg (ai 22 (dg R)), .agg (ai 22 (dg R))]) (R := .agg (ai 22 (dg (R * R % pp)))) (fun w => times_r (m := R) (n := R) (lt_big (by first | exact mod_pp _ | assumption)) (lt_big (by first | exact mod_pp _ | assumption)) w) rfl (by kernel_rfl) rfl (by kernel_rfl) (by kernel_rfl) (by kernel_rfl) (fun w => by kernel_rfl)) ?_
    refine ok_cons (ok_load (b := 0) (off := 0) (c := ai 22 (dg m)) (v := .agg (ai 22 (dg m))) (ld22 (F := (dg m)) 35) rfl (by kernel_rfl) rfl (by kernel_rfl) (by kernel_rfl) (by kernel_rfl)) ?_
    refine ok_cons (ok_bin (x1 := .agg (ai 22 (dg (R * R % pp)))) (u1 := .agg (ai 22 (dg m))) (v := .bool false) (fun w => by rw [h1]; exact ne22_f m w) rfl (by kernel_rfl) rfl (by kernel_rfl) (by kernel_rfl) (by kernel_rfl) (by kernel_rfl) (by kernel_rfl)) ?_
    exact ok_nil
  clear h; intro β a w h
  refine sym_then ?_
  refine sym_cond_f h (by kernel_rfl) (by kernel_rfl) ?_
  refine wp_skip ?_
  refine sym_then ?_
  refine sym_seq ?_
  refine sym_seq ?_
  refine St.region h [.inl (.agg (ai 22 (dg m))), .inr (0, 0), .inr (1, 0), .inl (.bool false), .inr (2, 0), .inr (3, 0), .inl (.agg (ai 22 (dg pp))), .inr (2, 0), .inl (.int .i64 ((((dg pp) 0) : Nat) : Int)), .inl (.int .i64 (((((dg pp) 0) + 3) : Nat) : Int)), .inr (2, 0), .inl (.agg (ai 22 (dg m))), .inl (.agg (ai 22 (dg e0))), .inl (.agg (ai 22 (dg e1))), .inl (.agg (ai 22 (dg e2))), .inl (.agg (ai 22 (dg k))), .inl (.agg (ai 22 (dg R))), .inl (.agg (ai 22 (dg R))), .inl (.agg (ai 22 (dg R))), .inl (.agg (ai 22 (dg (R * R % pp)))), .inl (.agg (ai 22 (dg m))), .inl (.bool false), uu, uu, uu, uu, uu, uu, uu, uu, uu, .inl (.agg (ai 22 (dg R))), .inl (.agg (ai 22 (dg R))), .inl (.agg (ai 22 (dg (R * R % pp)))), .inl (.agg (ai 22 (dg m))), .inl (.bool false), uu, .inr (3, 0), .inl (.int .i64 ((((dg R) 0) : Nat) : Int)), .inl (.int .i64 (((((dg R) 0) % 2) : Nat) : Int)), .inl (.bool true), uu, uu, uu, uu] [(ai 22 (dg m), 35), (ai 22 (fun _ => 0), 35), (ai 22 (dg e0), 35), (ai 22 (dg R), 35)] [(ai 22 (dg m), 35), (ai 22 (fun _ => 0), 35), (ai 22 (dg e0), 35), (ai 22 (dg R), 35)] [#[], #[], #[], #[]] [nn, ⟨none, none, some 3, false⟩, nn, nn] (by kernel_rfl) (by kernel_rfl) (by kernel_rfl) (by kernel_rfl) (by kernel_rfl) (by kernel_rfl) (by kernel_rfl) (by kernel_rfl) ?_ ?_
  · refine ok_cons (ok_iaddr (b := 3) (off := 0) (off' := 0) (u := .int .i64 ((0 : Nat) : Int)) (ix22 (i := 0) (by omega)) rfl (by kernel_rfl) rfl (by kernel_rfl) (by kernel_rfl) (by kernel_rfl) (by kernel_rfl)) ?_
    refine ok_cons (ok_load (b := 3) (off := 0) (c := ai 22 (dg R)) (v := .int .i64 ((((dg R) 0) : Nat) : Int)) (ld_at (n := 22) (F := (dg R)) (i := 0) (t0 := 35) (by omega)) rfl (by kernel_rfl) rfl (by kernel_rfl) (by kernel_rfl) (by kernel_rfl)) ?_
    refine ok_cons (ok_bin (x1 := .int .i64 ((((dg R) 0) : Nat) : Int)) (u1 := .int .i64 ((2 : Nat) : Int)) (v := .int .i64 (((((dg R) 0) % 2) : Nat) : Int)) (re_i (m := ((dg R) 0)) (n := 2) (by decide)) rfl (by kernel_rfl) rfl (by kernel_rfl) (by kernel_rfl) (by kernel_rfl) (by kernel_rfl) (by kernel_rfl)) ?_
    refine ok_cons (ok_bin (x1 := .int .i64 (((((dg R) 0) % 2) : Nat) : Int)) (u1 := .int .i64 ((1 : Nat) : Int)) (v := .bool true) (eq_i (m := (((((dg R) 0) % 2) : Nat) : Int)) (n := ((1 : Nat) : Int)) (decide_eq_true (by omega))) rfl (by kernel_rfl) rfl (by kernel_rfl) (by kernel_rfl) (by kernel_rfl) (by kernel_rfl) (by kernel_rfl)) ?_
    exact ok_nil
  clear h; intro β a w h
  refine sym_then ?_
  refine sym_cond_t h (by kernel_rfl) (by kernel_rfl) ?_
  refine St.region h [.inl (.agg (ai 22 (dg m))), .inr (0, 0), .inr (1, 0), .inl (.bool false), .inr (2, 0), .inr (3, 0), .inl (.agg (ai 22 (dg pp))), .inr (2, 0), .inl (.int .i64 ((((dg pp) 0) : Nat) : Int)), .inl (.int .i64 (((((dg pp) 0) + 3) : Nat) : Int)), .inr (2, 0), .inl (.agg (ai 22 (dg m))), .inl (.agg (ai 22 (dg e0))), .inl (.agg (ai 22 (dg e1))), .inl (.agg (ai 22 (dg e2))), .inl (.agg (ai 22 (dg k))), .inl (.agg (ai 22 (dg R))), .inl (.agg (ai 22 (dg R))), .inl (.agg (ai 22 (dg R))), .inl (.agg (ai 22 (dg (R * R % pp)))), .inl (.agg (ai 22 (dg m))), .inl (.bool false), uu, uu, uu, uu, uu, uu, uu, uu, uu, .inl (.agg (ai 22 (dg R))), .inl (.agg (ai 22 (dg R))), .inl (.agg (ai 22 (dg (R * R % pp)))), .inl (.agg (ai 22 (dg m))), .inl (.bool false), uu, .inr (3, 0), .inl (.int .i64 ((((dg R) 0) : Nat) : Int)), .inl (.int .i64 (((((dg R) 0) % 2) : Nat) : Int)), .inl (.bool true), .inl (.agg (ai 22 (dg pp))), .inl (.agg (ai 22 (dg R))), .inl (.agg (ai 22 (dg (pp - R)))), uu] [(ai 22 (dg m), 35), (ai 22 (fun _ => 0), 35), (ai 22 (dg e0), 35), (ai 22 (dg (pp - R)), 35)] [(ai 22 (dg m), 35), (ai 22 (fun _ => 0), 35), (ai 22 (dg e0), 35), (ai 22 (dg R), 35)] [#[], #[], #[], ai 22 (dg (pp - R))] [nn, ⟨none, none, some 3, false⟩, nn, ⟨none, some 3, none, false⟩] (by kernel_rfl) (by kernel_rfl) (by kernel_rfl) (by kernel_rfl) (by kernel_rfl) (by kernel_rfl) (by kernel_rfl) (by kernel_rfl) ?_ ?_
  · refine ok_cons (ok_call (vs := #[]) (R := .agg (ai 22 (dg pp))) prime_r rfl (by kernel_rfl) rfl (by kernel_rfl) (by kernel_rfl) (by kernel_rfl) (fun w => by kernel_rfl)) ?_
    refine ok_cons (ok_load (b := 3) (off := 0) (c := ai 22 (dg R)) (v := .agg (ai 22 (dg R))) (ld22 (F := (dg R)) 35) rfl (by kernel_rfl) rfl (by kernel_rfl) (by kernel_rfl) (by kernel_rfl)) ?_
    refine ok_cons (ok_call (vs := #[.agg (ai 22 (dg pp)), .agg (ai 22 (dg R))]) (R := .agg (ai 22 (dg (pp - R)))) (fun w => less_r (Nat.le_of_lt hR) w) rfl (by kernel_rfl) rfl (by kernel_rfl) (by kernel_rfl) (by kernel_rfl) (fun w => by kernel_rfl)) ?_
    refine ok_cons (ok_store (b := 3) (off := 0) (u := .agg (ai 22 (dg (pp - R)))) (c := ai 22 (dg R)) (n := ai 22 (dg (pp - R))) (st22 (F := (dg (pp - R))) (c := ai 22 (dg R)) 35 (ai_size _ _)) rfl (by kernel_rfl) rfl (by kernel_rfl) (by kernel_rfl) (by kernel_rfl) (by kernel_rfl) (by kernel_rfl)) ?_
    exact ok_nil
  clear h; intro β a w h
  refine sym_then ?_
  refine sym_seq ?_
  refine St.region h [.inl (.agg (ai 22 (dg m))), .inr (0, 0), .inr (1, 0), .inl (.bool true), .inr (2, 0), .inr (3, 0), .inl (.agg (ai 22 (dg pp))), .inr (2, 0), .inl (.int .i64 ((((dg pp) 0) : Nat) : Int)), .inl (.int .i64 (((((dg pp) 0) + 3) : Nat) : Int)), .inr (2, 0), .inl (.agg (ai 22 (dg m))), .inl (.agg (ai 22 (dg e0))), .inl (.agg (ai 22 (dg e1))), .inl (.agg (ai 22 (dg e2))), .inl (.agg (ai 22 (dg k))), .inl (.agg (ai 22 (dg R))), .inl (.agg (ai 22 (dg R))), .inl (.agg (ai 22 (dg R))), .inl (.agg (ai 22 (dg (R * R % pp)))), .inl (.agg (ai 22 (dg m))), .inl (.bool false), uu, uu, uu, uu, uu, uu, uu, uu, uu, .inl (.agg (ai 22 (dg R))), .inl (.agg (ai 22 (dg R))), .inl (.agg (ai 22 (dg (R * R % pp)))), .inl (.agg (ai 22 (dg m))), .inl (.bool false), uu, .inr (3, 0), .inl (.int .i64 ((((dg R) 0) : Nat) : Int)), .inl (.int .i64 (((((dg R) 0) % 2) : Nat) : Int)), .inl (.bool true), .inl (.agg (ai 22 (dg pp))), .inl (.agg (ai 22 (dg R))), .inl (.agg (ai 22 (dg (pp - R)))), .inl (.agg (ai 22 (dg (pp - R))))] [(ai 22 (dg m), 35), (ai 22 (dg (pp - R)), 35), (ai 22 (dg e0), 35), (ai 22 (dg (pp - R)), 35)] [(ai 22 (dg m), 35), (ai 22 (fun _ => 0), 35), (ai 22 (dg e0), 35), (ai 22 (dg (pp - R)), 35)] [#[], ai 22 (dg (pp - R)), #[], #[]] [⟨none, none, some 3, false⟩, ⟨none, some 1, none, false⟩, nn] (by kernel_rfl) (by kernel_rfl) (by kernel_rfl) (by kernel_rfl) (by kernel_rfl) (by kernel_rfl) (by kernel_rfl) (by kernel_rfl) ?_ ?_
  · refine ok_cons (ok_load (b := 3) (off := 0) (c := ai 22 (dg (pp - R))) (v := .agg (ai 22 (dg (pp - R)))) (ld22 (F := (dg (pp - R))) 35) rfl (by kernel_rfl) rfl (by kernel_rfl) (by kernel_rfl) (by kernel_rfl)) ?_
    refine ok_cons (ok_store (b := 1) (off := 0) (u := .agg (ai 22 (dg (pp - R)))) (c := ai 22 (fun _ => 0)) (n := ai 22 (dg (pp - R))) (st22 (F := (dg (pp - R))) (c := ai 22 (fun _ => 0)) 35 (ai_size _ _)) rfl (by kernel_rfl) rfl (by kernel_rfl) (by kernel_rfl) (by kernel_rfl) (by kernel_rfl) (by kernel_rfl)) ?_
    refine ok_cons (ok_mv (Or.inr rfl) (by kernel_rfl) rfl (by kernel_rfl) (by kernel_rfl)) ?_
    exact ok_nil
  clear h; intro β a w h
  refine sym_then ?_
  refine wp_ret ?_
  exact sym_ret2 (b := 1) (t0 := 35) (c := ai 22 (dg (pp - R))) h Try.results39 (by kernel_rfl) (by kernel_rfl) (by kernel_rfl) (by kernel_rfl) (by kernel_rfl) Try.underlying35 rfl (by rw [ai_size]; kernel_rfl) (fun hb => ⟨rfl, hb⟩)

set_option maxHeartbeats 4000000 in
theorem rr_2n {m R J e0 e1 e2 k f0 f1 f2 : Nat} (hm : m < pp) (hR : R < pp) (hE : ai 22 (updN (dg pp) 0 (dg pp 0 + 3)) = ai 22 (dg e0))
    (k1 : (∀ w, Calls Try.prog 70 #[.agg (ai 22 (dg e0))] w fun e w' => e = .returned (.agg (ai 22 (dg e1))) ∧ Below w.heap.size w w')) (k2 : (∀ w, Calls Try.prog 70 #[.agg (ai 22 (dg e1))] w fun e w' => e = .returned (.agg (ai 22 (dg e2))) ∧ Below w.heap.size w w')) (k3 : (∀ w, Calls Try.prog 70 #[.agg (ai 22 (dg e2))] w fun e w' => e = .returned (.agg (ai 22 (dg k))) ∧ Below w.heap.size w w')) (cP : (∀ w, Calls Try.prog 69 #[.agg (ai 22 (dg m)), .agg (ai 22 (dg k))] w fun e w' => e = .returned (.agg (ai 22 (dg R))) ∧ Below w.heap.size w w')) (hJ : J < pp) (cF : (∀ w, Calls Try.prog 71 #[.agg (ai 22 (dg pp)), .agg (ai 22 (dg 1))] w fun e w' => e = .returned (.agg (ai 22 (dg f0))) ∧ Below w.heap.size w w')) (k4 : (∀ w, Calls Try.prog 70 #[.agg (ai 22 (dg f0))] w fun e w' => e = .returned (.agg (ai 22 (dg f1))) ∧ Below w.heap.size w w')) (k5 : (∀ w, Calls Try.prog 70 #[.agg (ai 22 (dg f1))] w fun e w' => e = .returned (.agg (ai 22 (dg f2))) ∧ Below w.heap.size w w')) (cJ : (∀ w, Calls Try.prog 69 #[.agg (ai 22 (dg 2)), .agg (ai 22 (dg f2))] w fun e w' => e = .returned (.agg (ai 22 (dg J))) ∧ Below w.heap.size w w')) (h1 : R * R % pp ≠ m) (h2 : (R * J % pp) * (R * J % pp) % pp ≠ m) (W0 : World) : Calls Try.prog 39 #[.agg (ai 22 (dg m))] W0 fun e w' => e = .returned (.tuple #[.agg (ai 22 (dg 0)), .bool false]) ∧ Below W0.heap.size W0 w' := by
  have g1 := dg_lt pp 0

  refine sym_enter Try.func39 Try.ntmps39 rfl [.inl (.agg (ai 22 (dg m))), uu, uu, uu, uu, uu, uu, uu, uu, uu, uu, uu, uu, uu, uu, uu, uu, uu, uu, uu, uu, uu, uu, uu, uu, uu, uu, uu, uu, uu, uu, uu, uu, uu, uu, uu, uu, uu, uu, uu, uu, uu, uu, uu, uu] (by kernel_rfl) (by kernel_rfl) ?_
  intro β a h
  refine sym_seq ?_
  refine St.region h [.inl (.agg (ai 22 (dg m))), .inr (0, 0), .inr (1, 0), .inl (.bool false), uu, uu, uu, uu, uu, uu, uu, uu, uu, uu, uu, uu, uu, uu, uu, uu, uu, uu, uu, uu, uu, uu, uu, uu, uu, uu, uu, uu, uu, uu, uu, uu, uu, uu, uu, uu, uu, uu, uu, uu, uu] [(ai 22 (dg m), 35), (ai 22 (fun _ => 0), 35)] [(ai 22 (dg m), 35), (ai 22 (fun _ => 0), 35)] [#[], #[]] [⟨some 0, none, none, false⟩, ⟨some 1, none, none, false⟩, nn] (by kernel_rfl) (by kernel_rfl) (by kernel_rfl) (by kernel_rfl) (by kernel_rfl) (by kernel_rfl) (by kernel_rfl) (by kernel_rfl) ?_ ?_
  · refine ok_cons (ok_box (b := 0) (u := .agg (ai 22 (dg m))) (bx22 (F := (dg m))) rfl (by kernel_rfl) rfl (by kernel_rfl) (by kernel_rfl) (by kernel_rfl) (by kernel_rfl)) ?_
    refine ok_cons (ok_alloc (b := 1) al22 rfl (by kernel_rfl) rfl (by kernel_rfl) (by kernel_rfl)) ?_
    refine ok_cons (ok_mv (Or.inr rfl) (by kernel_rfl) rfl (by kernel_rfl) (by kernel_rfl)) ?_
    exact ok_nil
  clear h; intro β a w h
  refine sym_then ?_
  refine sym_seq ?_
  refine St.region h [.inl (.agg (ai 22 (dg m))), .inr (0, 0), .inr (1, 0), .inl (.bool false), .inr (2, 0), uu, .inl (.agg (ai 22 (dg pp))), uu, uu, uu, uu, uu, uu, uu, uu, uu, uu, uu, uu, uu, uu, uu, uu, uu, uu, uu, uu, uu, uu, uu, uu, uu, uu, uu, uu, uu, uu, uu, uu, uu, uu, uu, uu, uu, uu] [(ai 22 (dg m), 35), (ai 22 (fun _ => 0), 35), (ai 22 (dg pp), 35)] [(ai 22 (dg m), 35), (ai 22 (fun _ => 0), 35), (ai 22 (fun _ => 0), 35)] [#[], #[], ai 22 (dg pp)] [nn, ⟨some 2, none, none, false⟩, ⟨none, some 2, none, false⟩] (by kernel_rfl) (by kernel_rfl) (by kernel_rfl) (by kernel_rfl) (by kernel_rfl) (by kernel_rfl) (by kernel_rfl) (by kernel_rfl) ?_ ?_
  · refine ok_cons (ok_call (vs := #[]) (R := .agg (ai 22 (dg pp))) prime_r rfl (by kernel_rfl) rfl (by kernel_rfl) (by kernel_rfl) (by kernel_rfl) (fun w => by kernel_rfl)) ?_
    refine ok_cons (ok_alloc (b := 2) al22 rfl (by kernel_rfl) rfl (by kernel_rfl) (by kernel_rfl)) ?_
    refine ok_cons (ok_store (b := 2) (off := 0) (u := .agg (ai 22 (dg pp))) (c := ai 22 (fun _ => 0)) (n := ai 22 (dg pp)) (st22 (F := (dg pp)) (c := ai 22 (fun _ => 0)) 35 (ai_size _ _)) rfl (by kernel_rfl) rfl (by kernel_rfl) (by kernel_rfl) (by kernel_rfl) (by kernel_rfl) (by kernel_rfl)) ?_
    exact ok_nil
  clear h; intro β a w h
  refine sym_then ?_
  refine sym_seq ?_
  refine St.region h [.inl (.agg (ai 22 (dg m))), .inr (0, 0), .inr (1, 0), .inl (.bool false), .inr (2, 0), uu, .inl (.agg (ai 22 (dg pp))), .inr (2, 0), .inl (.int .i64 ((((dg pp) 0) : Nat) : Int)), .inl (.int .i64 (((((dg pp) 0) + 3) : Nat) : Int)), .inr (2, 0), uu, uu, uu, uu, uu, uu, uu, uu, uu, uu, uu, uu, uu, uu, uu, uu, uu, uu, uu, uu, uu, uu, uu, uu, uu, uu, uu, uu, uu, uu, uu, uu, uu, uu] [(ai 22 (dg m), 35), (ai 22 (fun _ => 0), 35), (ai 22 (updN (dg pp) 0 (((dg pp) 0) + 3)), 35)] [(ai 22 (dg m), 35), (ai 22 (fun _ => 0), 35), (ai 22 (dg pp), 35)] [#[], #[], ai 22 (updN (dg pp) 0 (((dg pp) 0) + 3))] [nn, ⟨none, none, some 2, false⟩, nn, nn, ⟨none, some 2, none, false⟩] (by kernel_rfl) (by kernel_rfl) (by kernel_rfl) (by kernel_rfl) (by kernel_rfl) (by kernel_rfl) (by kernel_rfl) (by kernel_rfl) ?_ ?_
  · refine ok_cons (ok_iaddr (b := 2) (off := 0) (off' := 0) (u := .int .i64 ((0 : Nat) : Int)) (ix22 (i := 0) (by omega)) rfl (by kernel_rfl) rfl (by kernel_rfl) (by kernel_rfl) (by kernel_rfl) (by kernel_rfl)) ?_
    refine ok_cons (ok_load (b := 2) (off := 0) (c := ai 22 (dg pp)) (v := .int .i64 ((((dg pp) 0) : Nat) : Int)) (ld_at (n := 22) (F := (dg pp)) (i := 0) (t0 := 35) (by omega)) rfl (by kernel_rfl) rfl (by kernel_rfl) (by kernel_rfl) (by kernel_rfl)) ?_
    refine ok_cons (ok_bin (x1 := .int .i64 ((((dg pp) 0) : Nat) : Int)) (u1 := .int .i64 ((3 : Nat) : Int)) (v := .int .i64 (((((dg pp) 0) + 3) : Nat) : Int)) (ad_i (m := ((dg pp) 0)) (n := 3) (by omega)) rfl (by kernel_rfl) rfl (by kernel_rfl) (by kernel_rfl) (by kernel_rfl) (by kernel_rfl) (by kernel_rfl)) ?_
    refine ok_cons (ok_iaddr (b := 2) (off := 0) (off' := 0) (u := .int .i64 ((0 : Nat) : Int)) (ix22 (i := 0) (by omega)) rfl (by kernel_rfl) rfl (by kernel_rfl) (by kernel_rfl) (by kernel_rfl) (by kernel_rfl)) ?_
    refine ok_cons (ok_store (b := 2) (off := 0) (u := .int .i64 (((((dg pp) 0) + 3) : Nat) : Int)) (c := ai 22 (dg pp)) (n := ai 22 (updN (dg pp) 0 (((dg pp) 0) + 3))) (st_at (n := 22) (F := (dg pp)) (i := 0) (v := (((dg pp) 0) + 3)) (t0 := 35) (by omega)) rfl (by kernel_rfl) rfl (by kernel_rfl) (by kernel_rfl) (by kernel_rfl) (by kernel_rfl) (by kernel_rfl)) ?_
    exact ok_nil
  clear h; intro β a w h
  replace h := St.setm h 2 (c := ai 22 (updN (dg pp) 0 (((dg pp) 0) + 3))) (c' := ai 22 (dg e0)) (t := 35) (m' := [(ai 22 (dg m), 35), (ai 22 (fun _ => 0), 35), (ai 22 (dg e0), 35)]) hE (by kernel_rfl) (by kernel_rfl)
  refine sym_then ?_
  refine sym_seq ?_
  refine St.region h [.inl (.agg (ai 22 (dg m))), .inr (0, 0), .inr (1, 0), .inl (.bool false), .inr (2, 0), .inr (3, 0), .inl (.agg (ai 22 (dg pp))), .inr (2, 0), .inl (.int .i64 ((((dg pp) 0) : Nat) : Int)), .inl (.int .i64 (((((dg pp) 0) + 3) : Nat) : Int)), .inr (2, 0), .inl (.agg (ai 22 (dg m))), .inl (.agg (ai 22 (dg e0))), .inl (.agg (ai 22 (dg e1))), .inl (.agg (ai 22 (dg e2))), .inl (.agg (ai 22 (dg k))), .inl (.agg (ai 22 (dg R))), uu, uu, uu, uu, uu, uu, uu, uu, uu, uu, uu, uu, uu, uu, uu, uu, uu, uu, uu, uu, uu, uu, uu, uu, uu, uu, uu, uu] [(ai 22 (dg m), 35), (ai 22 (fun _ => 0), 35), (ai 22 (dg e0), 35), (ai 22 (dg R), 35)] [(ai 22 (dg m), 35), (ai 22 (fun _ => 0), 35), (ai 22 (dg e0), 35), (ai 22 (fun _ => 0), 35)] [#[], #[], #[], ai 22 (dg R)] [⟨none, none, some 0, false⟩, ⟨none, none, some 2, false⟩, nn, nn, nn, nn, ⟨some 3, none, none, false⟩, ⟨none, some 3, none, false⟩] (by kernel_rfl) (by kernel_rfl) (by kernel_rfl) (by kernel_rfl) (by kernel_rfl) (by kernel_rfl) (by kernel_rfl) (by kernel_rfl) ?_ ?_
  · refine ok_cons (ok_load (b := 0) (off := 0) (c := ai 22 (dg m)) (v := .agg (ai 22 (dg m))) (ld22 (F := (dg m)) 35) rfl (by kernel_rfl) rfl (by kernel_rfl) (by kernel_rfl) (by kernel_rfl)) ?_
    refine ok_cons (ok_load (b := 2) (off := 0) (c := ai 22 (dg e0)) (v := .agg (ai 22 (dg e0))) (ld22 (F := (dg e0)) 35) rfl (by kernel_rfl) rfl (by kernel_rfl) (by kernel_rfl) (by kernel_rfl)) ?_
    refine ok_cons (ok_call (vs := #[.agg (ai 22 (dg e0))]) (R := .agg (ai 22 (dg e1))) k1 rfl (by kernel_rfl) rfl (by kernel_rfl) (by kernel_rfl) (by kernel_rfl) (fun w => by kernel_rfl)) ?_
    refine ok_cons (ok_call (vs := #[.agg (ai 22 (dg e1))]) (R := .agg (ai 22 (dg e2))) k2 rfl (by kernel_rfl) rfl (by kernel_rfl) (by kernel_rfl) (by kernel_rfl) (fun w => by kernel_rfl)) ?_
    refine ok_cons (ok_call (vs := #[.agg (ai 22 (dg e2))]) (R := .agg (ai 22 (dg k))) k3 rfl (by kernel_rfl) rfl (by kernel_rfl) (by kernel_rfl) (by kernel_rfl) (fun w => by kernel_rfl)) ?_
    refine ok_cons (ok_call (vs := #[.agg (ai 22 (dg m)), .agg (ai 22 (dg k))]) (R := .agg (ai 22 (dg R))) cP rfl (by kernel_rfl) rfl (by kernel_rfl) (by kernel_rfl) (by kernel_rfl) (fun w => by kernel_rfl)) ?_
    refine ok_cons (ok_alloc (b := 3) al22 rfl (by kernel_rfl) rfl (by kernel_rfl) (by kernel_rfl)) ?_
    refine ok_cons (ok_store (b := 3) (off := 0) (u := .agg (ai 22 (dg R))) (c := ai 22 (fun _ => 0)) (n := ai 22 (dg R)) (st22 (F := (dg R)) (c := ai 22 (fun _ => 0)) 35 (ai_size _ _)) rfl (by kernel_rfl) rfl (by kernel_rfl) (by kernel_rfl) (by kernel_rfl) (by kernel_rfl) (by kernel_rfl)) ?_
    exact ok_nil
  clear h; intro β a w h
  refine sym_then ?_
  refine sym_seq ?_
  refine sym_seq ?_
  refine St.region h [.inl (.agg (ai 22 (dg m))), .inr (0, 0), .inr (1, 0), .inl (.bool false), .inr (2, 0), .inr (3, 0), .inl (.agg (ai 22 (dg pp))), .inr (2, 0), .inl (.int .i64 ((((dg pp) 0) : Nat) : Int)), .inl (.int .i64 (((((dg pp) 0) + 3) : Nat) : Int)), .inr (2, 0), .inl (.agg (ai 22 (dg m))), .inl (.agg (ai 22 (dg e0))), .inl (.agg (ai 22 (dg e1))), .inl (.agg (ai 22 (dg e2))), .inl (.agg (ai 22 (dg k))), .inl (.agg (ai 22 (dg R))), .inl (.agg (ai 22 (dg R))), .inl (.agg (ai 22 (dg R))), .inl (.agg (ai 22 (dg (R * R % pp)))), .inl (.agg (ai 22 (dg m))), .inl (.bool true), uu, uu, uu, uu, uu, uu, uu, uu, uu, uu, uu, uu, uu, uu, uu, uu, uu, uu, uu, uu, uu, uu, uu] [(ai 22 (dg m), 35), (ai 22 (fun _ => 0), 35), (ai 22 (dg e0), 35), (ai 22 (dg R), 35)] [(ai 22 (dg m), 35), (ai 22 (fun _ => 0), 35), (ai 22 (dg e0), 35), (ai 22 (dg R), 35)] [#[], #[], #[], #[]] [⟨none, none, some 3, false⟩, ⟨none, none, some 3, false⟩, nn, ⟨none, none, some 0, false⟩, nn] (by kernel_rfl) (by kernel_rfl) (by kernel_rfl) (by kernel_rfl) (by kernel_rfl) (by kernel_rfl) (by kernel_rfl) (by kernel_rfl) ?_ ?_
  · refine ok_cons (ok_load (b := 3) (off := 0) (c := ai 22 (dg R)) (v := .agg (ai 22 (dg R))) (ld22 (F := (dg R)) 35) rfl (by kernel_rfl) rfl (by kernel_rfl) (by kernel_rfl) (by kernel_rfl)) ?_
    refine ok_cons (ok_load (b := 3) (off := 0) (c := ai 22 (dg R)) (v := .agg (ai 22 (dg R))) (ld22 (F := (dg R)) 35) rfl (by kernel_rfl) rfl (by kernel_rfl) (by kernel_rfl) (by kernel_rfl)) ?_
    refine ok_cons (ok_call (vs := #[.agg (ai 22 (dg R)), .agg (ai 22 (dg R))]) (R := .agg (ai 22 (dg (R * R % pp)))) (fun w => times_r (m := R) (n := R) (lt_big (by first | exact mod_pp _ | assumption)) (lt_big (by first | exact mod_pp _ | assumption)) w) rfl (by kernel_rfl) rfl (by kernel_rfl) (by kernel_rfl) (by kernel_rfl) (fun w => by kernel_rfl)) ?_
    refine ok_cons (ok_load (b := 0) (off := 0) (c := ai 22 (dg m)) (v := .agg (ai 22 (dg m))) (ld22 (F := (dg m)) 35) rfl (by kernel_rfl) rfl (by kernel_rfl) (by kernel_rfl) (by kernel_rfl)) ?_
    refine ok_cons (ok_bin (x1 := .agg (ai 22 (dg (R * R % pp)))) (u1 := .agg (ai 22 (dg m))) (v := .bool true) (ne22_t (lt_big (mod_pp _)) (lt_big hm) h1) rfl (by kernel_rfl) rfl (by kernel_rfl) (by kernel_rfl) (by kernel_rfl) (by kernel_rfl) (by kernel_rfl)) ?_
    exact ok_nil
  clear h; intro β a w h
  refine sym_then ?_
  refine sym_cond_t h (by kernel_rfl) (by kernel_rfl) ?_
  refine St.region h [.inl (.agg (ai 22 (dg m))), .inr (0, 0), .inr (1, 0), .inl (.bool false), .inr (2, 0), .inr (3, 0), .inl (.agg (ai 22 (dg pp))), .inr (2, 0), .inl (.int .i64 ((((dg pp) 0) : Nat) : Int)), .inl (.int .i64 (((((dg pp) 0) + 3) : Nat) : Int)), .inr (2, 0), .inl (.agg (ai 22 (dg m))), .inl (.agg (ai 22 (dg e0))), .inl (.agg (ai 22 (dg e1))), .inl (.agg (ai 22 (dg e2))), .inl (.agg (ai 22 (dg k))), .inl (.agg (ai 22 (dg R))), .inl (.agg (ai 22 (dg R))), .inl (.agg (ai 22 (dg R))), .inl (.agg (ai 22 (dg (R * R % pp)))), .inl (.agg (ai 22 (dg m))), .inl (.bool true), .inl (.agg (ai 22 (dg R))), .inl (.agg (ai 22 (dg 2))), .inl (.agg (ai 22 (dg pp))), .inl (.agg (ai 22 (dg 1))), .inl (.agg (ai 22 (dg f0))), .inl (.agg (ai 22 (dg f1))), .inl (.agg (ai 22 (dg f2))), .inl (.agg (ai 22 (dg J))), .inl (.agg (ai 22 (dg (R * J % pp)))), uu, uu, uu, uu, uu, uu, uu, uu, uu, uu, uu, uu, uu, uu] [(ai 22 (dg m), 35), (ai 22 (fun _ => 0), 35), (ai 22 (dg e0), 35), (ai 22 (dg (R * J % pp)), 35)] [(ai 22 (dg m), 35), (ai 22 (fun _ => 0), 35), (ai 22 (dg e0), 35), (ai 22 (dg R), 35)] [#[], #[], #[], ai 22 (dg (R * J % pp))] [⟨none, none, some 3, false⟩, nn, nn, nn, nn, nn, nn, nn, nn, ⟨none, some 3, none, false⟩] (by kernel_rfl) (by kernel_rfl) (by kernel_rfl) (by kernel_rfl) (by kernel_rfl) (by kernel_rfl) (by kernel_rfl) (by kernel_rfl) ?_ ?_
  · refine ok_cons (ok_load (b := 3) (off := 0) (c := ai 22 (dg R)) (v := .agg (ai 22 (dg R))) (ld22 (F := (dg R)) 35) rfl (by kernel_rfl) rfl (by kernel_rfl) (by kernel_rfl) (by kernel_rfl)) ?_
    refine ok_cons (ok_call (vs := #[.int .i64 ((2 : Nat) : Int)]) (R := .agg (ai 22 (dg 2))) (fun w => int_r (N := 2) (by decide) w) rfl (by kernel_rfl) rfl (by kernel_rfl) (by kernel_rfl) (by kernel_rfl) (fun w => by kernel_rfl)) ?_
    refine ok_cons (ok_call (vs := #[]) (R := .agg (ai 22 (dg pp))) prime_r rfl (by kernel_rfl) rfl (by kernel_rfl) (by kernel_rfl) (by kernel_rfl) (fun w => by kernel_rfl)) ?_
    refine ok_cons (ok_call (vs := #[.int .i64 ((1 : Nat) : Int)]) (R := .agg (ai 22 (dg 1))) (fun w => int_r (N := 1) (by decide) w) rfl (by kernel_rfl) rfl (by kernel_rfl) (by kernel_rfl) (by kernel_rfl) (fun w => by kernel_rfl)) ?_
    refine ok_cons (ok_call (vs := #[.agg (ai 22 (dg pp)), .agg (ai 22 (dg 1))]) (R := .agg (ai 22 (dg f0))) cF rfl (by kernel_rfl) rfl (by kernel_rfl) (by kernel_rfl) (by kernel_rfl) (fun w => by kernel_rfl)) ?_
    refine ok_cons (ok_call (vs := #[.agg (ai 22 (dg f0))]) (R := .agg (ai 22 (dg f1))) k4 rfl (by kernel_rfl) rfl (by kernel_rfl) (by kernel_rfl) (by kernel_rfl) (fun w => by kernel_rfl)) ?_
    refine ok_cons (ok_call (vs := #[.agg (ai 22 (dg f1))]) (R := .agg (ai 22 (dg f2))) k5 rfl (by kernel_rfl) rfl (by kernel_rfl) (by kernel_rfl) (by kernel_rfl) (fun w => by kernel_rfl)) ?_
    refine ok_cons (ok_call (vs := #[.agg (ai 22 (dg 2)), .agg (ai 22 (dg f2))]) (R := .agg (ai 22 (dg J))) cJ rfl (by kernel_rfl) rfl (by kernel_rfl) (by kernel_rfl) (by kernel_rfl) (fun w => by kernel_rfl)) ?_
    refine ok_cons (ok_call (vs := #[.agg (ai 22 (dg R)), .agg (ai 22 (dg J))]) (R := .agg (ai 22 (dg (R * J % pp)))) (fun w => times_r (m := R) (n := J) (lt_big (by first | exact mod_pp _ | assumption)) (lt_big (by first | exact mod_pp _ | assumption)) w) rfl (by kernel_rfl) rfl (by kernel_rfl) (by kernel_rfl) (by kernel_rfl) (fun w => by kernel_rfl)) ?_
    refine ok_cons (ok_store (b := 3) (off := 0) (u := .agg (ai 22 (dg (R * J % pp)))) (c := ai 22 (dg R)) (n := ai 22 (dg (R * J % pp))) (st22 (F := (dg (R * J % pp))) (c := ai 22 (dg R)) 35 (ai_size _ _)) rfl (by kernel_rfl) rfl (by kernel_rfl) (by kernel_rfl) (by kernel_rfl) (by kernel_rfl) (by kernel_rfl)) ?_
    exact ok_nil
  clear h; intro β a w h
  refine sym_then ?_
  refine sym_seq ?_
  refine sym_seq ?_
  refine St.region h [.inl (.agg (ai 22 (dg m))), .inr (0, 0), .inr (1, 0), .inl (.bool false), .inr (2, 0), .inr (3, 0), .inl (.agg (ai 22 (dg pp))), .inr (2, 0), .inl (.int .i64 ((((dg pp) 0) : Nat) : Int)), .inl (.int .i64 (((((dg pp) 0) + 3) : Nat) : Int)), .inr (2, 0), .inl (.agg (ai 22 (dg m))), .inl (.agg (ai 22 (dg e0))), .inl (.agg (ai 22 (dg e1))), .inl (.agg (ai 22 (dg e2))), .inl (.agg (ai 22 (dg k))), .inl (.agg (ai 22 (dg R))), .inl (.agg (ai 22 (dg R))), .inl (.agg (ai 22 (dg R))), .inl (.agg (ai 22 (dg (R * R % pp)))), .inl (.agg (ai 22 (dg m))), .inl (.bool true), .inl (.agg (ai 22 (dg R))), .inl (.agg (ai 22 (dg 2))), .inl (.agg (ai 22 (dg pp))), .inl (.agg (ai 22 (dg 1))), .inl (.agg (ai 22 (dg f0))), .inl (.agg (ai 22 (dg f1))), .inl (.agg (ai 22 (dg f2))), .inl (.agg (ai 22 (dg J))), .inl (.agg (ai 22 (dg (R * J % pp)))), .inl (.agg (ai 22 (dg (R * J % pp)))), .inl (.agg (ai 22 (dg (R * J % pp)))), .inl (.agg (ai 22 (dg ((R * J % pp) * (R * J % pp) % pp)))), .inl (.agg (ai 22 (dg m))), .inl (.bool true), uu, uu, uu, uu, uu, uu, uu, uu, uu] [(ai 22 (dg m), 35), (ai 22 (fun _ => 0), 35), (ai 22 (dg e0), 35), (ai 22 (dg (R * J % pp)), 35)] [(ai 22 (dg m), 35), (ai 22 (fun _ => 0), 35), (ai 22 (dg e0), 35), (ai 22 (dg (R * J % pp)), 35)] [#[], #[], #[], #[]] [⟨none, none, some 3, false⟩, ⟨none, none, some 3, false⟩, nn, ⟨none, none, some 0, false⟩, nn] (by kernel_rfl) (by kernel_rfl) (by kernel_rfl) (by kernel_rfl) (by kernel_rfl) (by kernel_rfl) (by kernel_rfl) (by kernel_rfl) ?_ ?_
  · refine ok_cons (ok_load (b := 3) (off := 0) (c := ai 22 (dg (R * J % pp))) (v := .agg (ai 22 (dg (R * J % pp)))) (ld22 (F := (dg (R * J % pp))) 35) rfl (by kernel_rfl) rfl (by kernel_rfl) (by kernel_rfl) (by kernel_rfl)) ?_
    refine ok_cons (ok_load (b := 3) (off := 0) (c := ai 22 (dg (R * J % pp))) (v := .agg (ai 22 (dg (R * J % pp)))) (ld22 (F := (dg (R * J % pp))) 35) rfl (by kernel_rfl) rfl (by kernel_rfl) (by kernel_rfl) (by kernel_rfl)) ?_
    refine ok_cons (ok_call (vs := #[.agg (ai 22 (dg (R * J % pp))), .agg (ai 22 (dg (R * J % pp)))]) (R := .agg (ai 22 (dg ((R * J % pp) * (R * J % pp) % pp)))) (fun w => times_r (m := (R * J % pp)) (n := (R * J % pp)) (lt_big (by first | exact mod_pp _ | assumption)) (lt_big (by first | exact mod_pp _ | assumption)) w) rfl (by kernel_rfl) rfl (by kernel_rfl) (by kernel_rfl) (by kernel_rfl) (fun w => by kernel_rfl)) ?_
    refine ok_cons (ok_load (b := 0) (off := 0) (c := ai 22 (dg m)) (v := .agg (ai 22 (dg m))) (ld22 (F := (dg m)) 35) rfl (by kernel_rfl) rfl (by kernel_rfl) (by kernel_rfl) (by kernel_rfl)) ?_
    refine ok_cons (ok_bin (x1 := .agg (ai 22 (dg ((R * J % pp) * (R * J % pp) % pp)))) (u1 := .agg (ai 22 (dg m))) (v := .bool true) (ne22_t (lt_big (mod_pp _)) (lt_big hm) h2) rfl (by kernel_rfl) rfl (by kernel_rfl) (by kernel_rfl) (by kernel_rfl) (by kernel_rfl) (by kernel_rfl)) ?_
    exact ok_nil
  clear h; intro β a w h
  refine sym_then ?_
  refine sym_cond_t h (by kernel_rfl) (by kernel_rfl) ?_
  refine sym_seq ?_
  refine St.region h [.inl (.agg (ai 22 (dg m))), .inr (0, 0), .inr (1, 0), .inl (.bool false), .inr (2, 0), .inr (3, 0), .inl (.agg (ai 22 (dg pp))), .inr (2, 0), .inl (.int .i64 ((((dg pp) 0) : Nat) : Int)), .inl (.int .i64 (((((dg pp) 0) + 3) : Nat) : Int)), .inr (2, 0), .inl (.agg (ai 22 (dg m))), .inl (.agg (ai 22 (dg e0))), .inl (.agg (ai 22 (dg e1))), .inl (.agg (ai 22 (dg e2))), .inl (.agg (ai 22 (dg k))), .inl (.agg (ai 22 (dg R))), .inl (.agg (ai 22 (dg R))), .inl (.agg (ai 22 (dg R))), .inl (.agg (ai 22 (dg (R * R % pp)))), .inl (.agg (ai 22 (dg m))), .inl (.bool true), .inl (.agg (ai 22 (dg R))), .inl (.agg (ai 22 (dg 2))), .inl (.agg (ai 22 (dg pp))), .inl (.agg (ai 22 (dg 1))), .inl (.agg (ai 22 (dg f0))), .inl (.agg (ai 22 (dg f1))), .inl (.agg (ai 22 (dg f2))), .inl (.agg (ai 22 (dg J))), .inl (.agg (ai 22 (dg (R * J % pp)))), .inl (.agg (ai 22 (dg (R * J % pp)))), .inl (.agg (ai 22 (dg (R * J % pp)))), .inl (.agg (ai 22 (dg ((R * J % pp) * (R * J % pp) % pp)))), .inl (.agg (ai 22 (dg m))), .inl (.bool true), .inl (.agg (ai 22 (dg 0))), uu, uu, uu, uu, uu, uu, uu, uu] [(ai 22 (dg m), 35), (ai 22 (dg 0), 35), (ai 22 (dg e0), 35), (ai 22 (dg (R * J % pp)), 35)] [(ai 22 (dg m), 35), (ai 22 (fun _ => 0), 35), (ai 22 (dg e0), 35), (ai 22 (dg (R * J % pp)), 35)] [#[], ai 22 (dg 0), #[], #[]] [nn, ⟨none, some 1, none, false⟩, nn] (by kernel_rfl) (by kernel_rfl) (by kernel_rfl) (by kernel_rfl) (by kernel_rfl) (by kernel_rfl) (by kernel_rfl) (by kernel_rfl) ?_ ?_
  · refine ok_cons (ok_build (vs := #[]) (v := .agg (ai 22 (dg 0))) bd22 rfl (by kernel_rfl) rfl (by kernel_rfl) (by kernel_rfl) (by kernel_rfl)) ?_
    refine ok_cons (ok_store (b := 1) (off := 0) (u := .agg (ai 22 (dg 0))) (c := ai 22 (fun _ => 0)) (n := ai 22 (dg 0)) (st22 (F := (dg 0)) (c := ai 22 (fun _ => 0)) 35 (ai_size _ _)) rfl (by kernel_rfl) rfl (by kernel_rfl) (by kernel_rfl) (by kernel_rfl) (by kernel_rfl) (by kernel_rfl)) ?_
    refine ok_cons (ok_mv (Or.inr rfl) (by kernel_rfl) rfl (by kernel_rfl) (by kernel_rfl)) ?_
    exact ok_nil
  clear h; intro β a w h
  refine sym_then ?_
  refine wp_ret ?_
  refine then_ret ?_
  exact sym_ret2 (b := 1) (t0 := 35) (c := ai 22 (dg 0)) h Try.results39 (by kernel_rfl) (by kernel_rfl) (by kernel_rfl) (by kernel_rfl) (by kernel_rfl) Try.underlying35 rfl (by rw [ai_size]; kernel_rfl) (fun hb => ⟨rfl, hb⟩)

set_option maxHeartbeats 4000000 in
theorem rr_2e {m R J e0 e1 e2 k f0 f1 f2 : Nat} (hm : m < pp) (hR : R < pp) (hE : ai 22 (updN (dg pp) 0 (dg pp 0 + 3)) = ai 22 (dg e0))
    (k1 : (∀ w, Calls Try.prog 70 #[.agg (ai 22 (dg e0))] w fun e w' => e = .returned (.agg (ai 22 (dg e1))) ∧ Below w.heap.size w w')) (k2 : (∀ w, Calls Try.prog 70 #[.agg (ai 22 (dg e1))] w fun e w' => e = .returned (.agg (ai 22 (dg e2))) ∧ Below w.heap.size w w')) (k3 : (∀ w, Calls Try.prog 70 #[.agg (ai 22 (dg e2))] w fun e w' => e = .returned (.agg (ai 22 (dg k))) ∧ Below w.heap.size w w')) (cP : (∀ w, Calls Try.prog 69 #[.agg (ai 22 (dg m)), .agg (ai 22 (dg k))] w fun e w' => e = .returned (.agg (ai 22 (dg R))) ∧ Below w.heap.size w w')) (hJ : J < pp) (cF : (∀ w, Calls Try.prog 71 #[.agg (ai 22 (dg pp)), .agg (ai 22 (dg 1))] w fun e w' => e = .returned (.agg (ai 22 (dg f0))) ∧ Below w.heap.size w w')) (k4 : (∀ w, Calls Try.prog 70 #[.agg (ai 22 (dg f0))] w fun e w' => e = .returned (.agg (ai 22 (dg f1))) ∧ Below w.heap.size w w')) (k5 : (∀ w, Calls Try.prog 70 #[.agg (ai 22 (dg f1))] w fun e w' => e = .returned (.agg (ai 22 (dg f2))) ∧ Below w.heap.size w w')) (cJ : (∀ w, Calls Try.prog 69 #[.agg (ai 22 (dg 2)), .agg (ai 22 (dg f2))] w fun e w' => e = .returned (.agg (ai 22 (dg J))) ∧ Below w.heap.size w w')) (h1 : R * R % pp ≠ m) (h2 : (R * J % pp) * (R * J % pp) % pp = m) (hp : (R * J % pp) % 2 = 0) (W0 : World) : Calls Try.prog 39 #[.agg (ai 22 (dg m))] W0 fun e w' => e = .returned (.tuple #[.agg (ai 22 (dg (R * J % pp))), .bool true]) ∧ Below W0.heap.size W0 w' := by
  have g1 := dg_lt pp 0
  have g2 := dg_par (R * J % pp)
  refine sym_enter Try.func39 Try.ntmps39 rfl [.inl (.agg (ai 22 (dg m))), uu, uu, uu, uu, uu, uu, uu, uu, uu, uu, uu, uu, uu, uu, uu, uu, uu, uu, uu, uu, uu, uu, uu, uu, uu, uu, uu, uu, uu, uu, uu, uu, uu, uu, uu, uu, uu, uu, uu, uu, uu, uu, uu, uu] (by kernel_rfl) (by kernel_rfl) ?_
  intro β a h
  refine sym_seq ?_
  refine St.region h [.inl (.agg (ai 22 (dg m))), .inr (0, 0), .inr (1, 0), .inl (.bool false), uu, uu, uu, uu, uu, uu, uu, uu, uu, uu, uu, uu, uu, uu, uu, uu, uu, uu, uu, uu, uu, uu, uu, uu, uu, uu, uu, uu, uu, uu, uu, uu, uu, uu, uu, uu, uu, uu, uu, uu, uu] [(ai 22 (dg m), 35), (ai 22 (fun _ => 0), 35)] [(ai 22 (dg m), 35), (ai 22 (fun _ => 0), 35)] [#[], #[]] [⟨some 0, none, none, false⟩, ⟨some 1, none, none, false⟩, nn] (by kernel_rfl) (by kernel_rfl) (by kernel_rfl) (by kernel_rfl) (by kernel_rfl) (by kernel_rfl) (by kernel_rfl) (by kernel_rfl) ?_ ?_
  · refine ok_cons (ok_box (b := 0) (u := .agg (ai 22 (dg m))) (bx22 (F := (dg m))) rfl (by kernel_rfl) rfl (by kernel_rfl) (by kernel_rfl) (by kernel_rfl) (by kernel_rfl)) ?_
    refine ok_cons (ok_alloc (b := 1) al22 rfl (by kernel_rfl) rfl (by kernel_rfl) (by kernel_rfl)) ?_
    refine ok_cons (ok_mv (Or.inr rfl) (by kernel_rfl) rfl (by kernel_rfl) (by kernel_rfl)) ?_
    exact ok_nil
  clear h; intro β a w h
  refine sym_then ?_
  refine sym_seq ?_
  refine St.region h [.inl (.agg (ai 22 (dg m))), .inr (0, 0), .inr (1, 0), .inl (.bool false), .inr (2, 0), uu, .inl (.agg (ai 22 (dg pp))), uu, uu, uu, uu, uu, uu, uu, uu, uu, uu, uu, uu, uu, uu, uu, uu, uu, uu, uu, uu, uu, uu, uu, uu, uu, uu, uu, uu, uu, uu, uu, uu, uu, uu, uu, uu, uu, uu] [(ai 22 (dg m), 35), (ai 22 (fun _ => 0), 35), (ai 22 (dg pp), 35)] [(ai 22 (dg m), 35), (ai 22 (fun _ => 0), 35), (ai 22 (fun _ => 0), 35)] [#[], #[], ai 22 (dg pp)] [nn, ⟨some 2, none, none, false⟩, ⟨none, some 2, none, false⟩] (by kernel_rfl) (by kernel_rfl) (by kernel_rfl) (by kernel_rfl) (by kernel_rfl) (by kernel_rfl) (by kernel_rfl) (by kernel_rfl) ?_ ?_
  · refine ok_cons (ok_call (vs := #[]) (R := .agg (ai 22 (dg pp))) prime_r rfl (by kernel_rfl) rfl (by kernel_rfl) (by kernel_rfl) (by kernel_rfl) (fun w => by kernel_rfl)) ?_
    refine ok_cons (ok_alloc (b := 2) al22 rfl (by kernel_rfl) rfl (by kernel_rfl) (by kernel_rfl)) ?_
    refine ok_cons (ok_store (b := 2) (off := 0) (u := .agg (ai 22 (dg pp))) (c := ai 22 (fun _ => 0)) (n := ai 22 (dg pp)) (st22 (F := (dg pp)) (c := ai 22 (fun _ => 0)) 35 (ai_size _ _)) rfl (by kernel_rfl) rfl (by kernel_rfl) (by kernel_rfl) (by kernel_rfl) (by kernel_rfl) (by kernel_rfl)) ?_
    exact ok_nil
  clear h; intro β a w h
  refine sym_then ?_
  refine sym_seq ?_
  refine St.region h [.inl (.agg (ai 22 (dg m))), .inr (0, 0), .inr (1, 0), .inl (.bool false), .inr (2, 0), uu, .inl (.agg (ai 22 (dg pp))), .inr (2, 0), .inl (.int .i64 ((((dg pp) 0) : Nat) : Int)), .inl (.int .i64 (((((dg pp) 0) + 3) : Nat) : Int)), .inr (2, 0), uu, uu, uu, uu, uu, uu, uu, uu, uu, uu, uu, uu, uu, uu, uu, uu, uu, uu, uu, uu, uu, uu, uu, uu, uu, uu, uu, uu, uu, uu, uu, uu, uu, uu] [(ai 22 (dg m), 35), (ai 22 (fun _ => 0), 35), (ai 22 (updN (dg pp) 0 (((dg pp) 0) + 3)), 35)] [(ai 22 (dg m), 35), (ai 22 (fun _ => 0), 35), (ai 22 (dg pp), 35)] [#[], #[], ai 22 (updN (dg pp) 0 (((dg pp) 0) + 3))] [nn, ⟨none, none, some 2, false⟩, nn, nn, ⟨none, some 2, none, false⟩] (by kernel_rfl) (by kernel_rfl) (by kernel_rfl) (by kernel_rfl) (by kernel_rfl) (by kernel_rfl) (by kernel_rfl) (by kernel_rfl) ?_ ?_
  · refine ok_cons (ok_iaddr (b := 2) (off := 0) (off' := 0) (u := .int .i64 ((0 : Nat) : Int)) (ix22 (i := 0) (by omega)) rfl (by kernel_rfl) rfl (by kernel_rfl) (by kernel_rfl) (by kernel_rfl) (by kernel_rfl)) ?_
    refine ok_cons (ok_load (b := 2) (off := 0) (c := ai 22 (dg pp)) (v := .int .i64 ((((dg pp) 0) : Nat) : Int)) (ld_at (n := 22) (F := (dg pp)) (i := 0) (t0 := 35) (by omega)) rfl (by kernel_rfl) rfl (by kernel_rfl) (by kernel_rfl) (by kernel_rfl)) ?_
    refine ok_cons (ok_bin (x1 := .int .i64 ((((dg pp) 0) : Nat) : Int)) (u1 := .int .i64 ((3 : Nat) : Int)) (v := .int .i64 (((((dg pp) 0) + 3) : Nat) : Int)) (ad_i (m := ((dg pp) 0)) (n := 3) (by omega)) rfl (by kernel_rfl) rfl (by kernel_rfl) (by kernel_rfl) (by kernel_rfl) (by kernel_rfl) (by kernel_rfl)) ?_
    refine ok_cons (ok_iaddr (b := 2) (off := 0) (off' := 0) (u := .int .i64 ((0 : Nat) : Int)) (ix22 (i := 0) (by omega)) rfl (by kernel_rfl) rfl (by kernel_rfl) (by kernel_rfl) (by kernel_rfl) (by kernel_rfl)) ?_
    refine ok_cons (ok_store (b := 2) (off := 0) (u := .int .i64 (((((dg pp) 0) + 3) : Nat) : Int)) (c := ai 22 (dg pp)) (n := ai 22 (updN (dg pp) 0 (((dg pp) 0) + 3))) (st_at (n := 22) (F := (dg pp)) (i := 0) (v := (((dg pp) 0) + 3)) (t0 := 35) (by omega)) rfl (by kernel_rfl) rfl (by kernel_rfl) (by kernel_rfl) (by kernel_rfl) (by kernel_rfl) (by kernel_rfl)) ?_
    exact ok_nil
  clear h; intro β a w h
  replace h := St.setm h 2 (c := ai 22 (updN (dg pp) 0 (((dg pp) 0) + 3))) (c' := ai 22 (dg e0)) (t := 35) (m' := [(ai 22 (dg m), 35), (ai 22 (fun _ => 0), 35), (ai 22 (dg e0), 35)]) hE (by kernel_rfl) (by kernel_rfl)
  refine sym_then ?_
  refine sym_seq ?_
  refine St.region h [.inl (.agg (ai 22 (dg m))), .inr (0, 0), .inr (1, 0), .inl (.bool false), .inr (2, 0), .inr (3, 0), .inl (.agg (ai 22 (dg pp))), .inr (2, 0), .inl (.int .i64 ((((dg pp) 0) : Nat) : Int)), .inl (.int .i64 (((((dg pp) 0) + 3) : Nat) : Int)), .inr (2, 0), .inl (.agg (ai 22 (dg m))), .inl (.agg (ai 22 (dg e0))), .inl (.agg (ai 22 (dg e1))), .inl (.agg (ai 22 (dg e2))), .inl (.agg (ai 22 (dg k))), .inl (.agg (ai 22 (dg R))), uu, uu, uu, uu, uu, uu, uu, uu, uu, uu, uu, uu, uu, uu, uu, uu, uu, uu, uu, uu, uu, uu, uu, uu, uu, uu, uu, uu] [(ai 22 (dg m), 35), (ai 22 (fun _ => 0), 35), (ai 22 (dg e0), 35), (ai 22 (dg R), 35)] [(ai 22 (dg m), 35), (ai 22 (fun _ => 0), 35), (ai 22 (dg e0), 35), (ai 22 (fun _ => 0), 35)] [#[], #[], #[], ai 22 (dg R)] [⟨none, none, some 0, false⟩, ⟨none, none, some 2, false⟩, nn, nn, nn, nn, ⟨some 3, none, none, false⟩, ⟨none, some 3, none, false⟩] (by kernel_rfl) (by kernel_rfl) (by kernel_rfl) (by kernel_rfl) (by kernel_rfl) (by kernel_rfl) (by kernel_rfl) (by kernel_rfl) ?_ ?_
  · refine ok_cons (ok_load (b := 0) (off := 0) (c := ai 22 (dg m)) (v := .agg (ai 22 (dg m))) (ld22 (F := (dg m)) 35) rfl (by kernel_rfl) rfl (by kernel_rfl) (by kernel_rfl) (by kernel_rfl)) ?_
    refine ok_cons (ok_load (b := 2) (off := 0) (c := ai 22 (dg e0)) (v := .agg (ai 22 (dg e0))) (ld22 (F := (dg e0)) 35) rfl (by kernel_rfl) rfl (by kernel_rfl) (by kernel_rfl) (by kernel_rfl)) ?_
    refine ok_cons (ok_call (vs := #[.agg (ai 22 (dg e0))]) (R := .agg (ai 22 (dg e1))) k1 rfl (by kernel_rfl) rfl (by kernel_rfl) (by kernel_rfl) (by kernel_rfl) (fun w => by kernel_rfl)) ?_
    refine ok_cons (ok_call (vs := #[.agg (ai 22 (dg e1))]) (R := .agg (ai 22 (dg e2))) k2 rfl (by kernel_rfl) rfl (by kernel_rfl) (by kernel_rfl) (by kernel_rfl) (fun w => by kernel_rfl)) ?_
    refine ok_cons (ok_call (vs := #[.agg (ai 22 (dg e2))]) (R := .agg (ai 22 (dg k))) k3 rfl (by kernel_rfl) rfl (by kernel_rfl) (by kernel_rfl) (by kernel_rfl) (fun w => by kernel_rfl)) ?_
    refine ok_cons (ok_call (vs := #[.agg (ai 22 (dg m)), .agg (ai 22 (dg k))]) (R := .agg (ai 22 (dg R))) cP rfl (by kernel_rfl) rfl (by kernel_rfl) (by kernel_rfl) (by kernel_rfl) (fun w => by kernel_rfl)) ?_
    refine ok_cons (ok_alloc (b := 3) al22 rfl (by kernel_rfl) rfl (by kernel_rfl) (by kernel_rfl)) ?_
    refine ok_cons (ok_store (b := 3) (off := 0) (u := .agg (ai 22 (dg R))) (c := ai 22 (fun _ => 0)) (n := ai 22 (dg R)) (st22 (F := (dg R)) (c := ai 22 (fun _ => 0)) 35 (ai_size _ _)) rfl (by kernel_rfl) rfl (by kernel_rfl) (by kernel_rfl) (by kernel_rfl) (by kernel_rfl) (by kernel_rfl)) ?_
    exact ok_nil
  clear h; intro β a w h
  refine sym_then ?_
  refine sym_seq ?_
  refine sym_seq ?_
  refine St.region h [.inl (.agg (ai 22 (dg m))), .inr (0, 0), .inr (1, 0), .inl (.bool false), .inr (2, 0), .inr (3, 0), .inl (.agg (ai 22 (dg pp))), .inr (2, 0), .inl (.int .i64 ((((dg pp) 0) : Nat) : Int)), .inl (.int .i64 (((((dg pp) 0) + 3) : Nat) : Int)), .inr (2, 0), .inl (.agg (ai 22 (dg m))), .inl (.agg (ai 22 (dg e0))), .inl (.agg (ai 22 (dg e1))), .inl (.agg (ai 22 (dg e2))), .inl (.agg (ai 22 (dg k))), .inl (.agg (ai 22 (dg R))), .inl (.agg (ai 22 (dg R))), .inl (.agg (ai 22 (dg R))), .inl (.agg (ai 22 (dg (R * R % pp)))), .inl (.agg (ai 22 (dg m))), .inl (.bool true), uu, uu, uu, uu, uu, uu, uu, uu, uu, uu, uu, uu, uu, uu, uu, uu, uu, uu, uu, uu, uu, uu, uu] [(ai 22 (dg m), 35), (ai 22 (fun _ => 0), 35), (ai 22 (dg e0), 35), (ai 22 (dg R), 35)] [(ai 22 (dg m), 35), (ai 22 (fun _ => 0), 35), (ai 22 (dg e0), 35), (ai 22 (dg R), 35)] [#[], #[], #[], #[]] [⟨none, none, some 3, false⟩, ⟨none, none, some 3, false⟩, nn, ⟨none, none, some 0, false⟩, nn] (by kernel_rfl) (by kernel_rfl) (by kernel_rfl) (by kernel_rfl) (by kernel_rfl) (by kernel_rfl) (by kernel_rfl) (by kernel_rfl) ?_ ?_
  · refine ok_cons (ok_load (b := 3) (off := 0) (c := ai 22 (dg R)) (v := .agg (ai 22 (dg R))) (ld22 (F := (dg R)) 35) rfl (by kernel_rfl) rfl (by kernel_rfl) (by kernel_rfl) (by kernel_rfl)) ?_
    refine ok_cons (ok_load (b := 3) (off := 0) (c := ai 22 (dg R)) (v := .agg (ai 22 (dg R))) (ld22 (F := (dg R)) 35) rfl (by kernel_rfl) rfl (by kernel_rfl) (by kernel_rfl) (by kernel_rfl)) ?_
    refine ok_cons (ok_call (vs := #[.agg (ai 22 (dg R)), .agg (ai 22 (dg R))]) (R := .agg (ai 22 (dg (R * R % pp)))) (fun w => times_r (m := R) (n := R) (lt_big (by first | exact mod_pp _ | assumption)) (lt_big (by first | exact mod_pp _ | assumption)) w) rfl (by kernel_rfl) rfl (by kernel_rfl) (by kernel_rfl) (by kernel_rfl) (fun w => by kernel_rfl)) ?_
    refine ok_cons (ok_load (b := 0) (off := 0) (c := ai 22 (dg m)) (v := .agg (ai 22 (dg m))) (ld22 (F := (dg m)) 35) rfl (by kernel_rfl) rfl (by kernel_rfl) (by kernel_rfl) (by kernel_rfl)) ?_
    refine ok_cons (ok_bin (x1 := .agg (ai 22 (dg (R * R % pp)))) (u1 := .agg (ai 22 (dg m))) (v := .bool true) (ne22_t (lt_big (mod_pp _)) (lt_big hm) h1) rfl (by kernel_rfl) rfl (by kernel_rfl) (by kernel_rfl) (by kernel_rfl) (by kernel_rfl) (by kernel_rfl)) ?_
    exact ok_nil
  clear h; intro β a w h
  refine sym_then ?_
  refine sym_cond_t h (by kernel_rfl) (by kernel_rfl) ?_
  refine St.region h [.inl (.agg (ai 22 (dg m))), .inr (0, 0), .inr (1, 0), .inl (.bool false), .inr (2, 0), .inr (3, 0), .inl (.agg (ai 22 (dg pp))), .inr (2, 0), .inl (.int .i64 ((((dg pp) 0) : Nat) : Int)), .inl (.int .i64 (((((dg pp) 0) + 3) : Nat) : Int)), .inr (2, 0), .inl (.agg (ai 22 (dg m))), .inl (.agg (ai 22 (dg e0))), .inl (.agg (ai 22 (dg e1))), .inl (.agg (ai 22 (dg e2))), .inl (.agg (ai 22 (dg k))), .inl (.agg (ai 22 (dg R))), .inl (.agg (ai 22 (dg R))), .inl (.agg (ai 22 (dg R))), .inl (.agg (ai 22 (dg (R * R % pp)))), .inl (.agg (ai 22 (dg m))), .inl (.bool true), .inl (.agg (ai 22 (dg R))), .inl (.agg (ai 22 (dg 2))), .inl (.agg (ai 22 (dg pp))), .inl (.agg (ai 22 (dg 1))), .inl (.agg (ai 22 (dg f0))), .inl (.agg (ai 22 (dg f1))), .inl (.agg (ai 22 (dg f2))), .inl (.agg (ai 22 (dg J))), .inl (.agg (ai 22 (dg (R * J % pp)))), uu, uu, uu, uu, uu, uu, uu, uu, uu, uu, uu, uu, uu, uu] [(ai 22 (dg m), 35), (ai 22 (fun _ => 0), 35), (ai 22 (dg e0), 35), (ai 22 (dg (R * J % pp)), 35)] [(ai 22 (dg m), 35), (ai 22 (fun _ => 0), 35), (ai 22 (dg e0), 35), (ai 22 (dg R), 35)] [#[], #[], #[], ai 22 (dg (R * J % pp))] [⟨none, none, some 3, false⟩, nn, nn, nn, nn, nn, nn, nn, nn, ⟨none, some 3, none, false⟩] (by kernel_rfl) (by kernel_rfl) (by kernel_rfl) (by kernel_rfl) (by kernel_rfl) (by kernel_rfl) (by kernel_rfl) (by kernel_rfl) ?_ ?_
  · refine ok_cons (ok_load (b := 3) (off := 0) (c := ai 22 (dg R)) (v := .agg (ai 22 (dg R))) (ld22 (F := (dg R)) 35) rfl (by kernel_rfl) rfl (by kernel_rfl) (by kernel_rfl) (by kernel_rfl)) ?_
    refine ok_cons (ok_call (vs := #[.int .i64 ((2 : Nat) : Int)]) (R := .agg (ai 22 (dg 2))) (fun w => int_r (N := 2) (by decide) w) rfl (by kernel_rfl) rfl (by kernel_rfl) (by kernel_rfl) (by kernel_rfl) (fun w => by kernel_rfl)) ?_
    refine ok_cons (ok_call (vs := #[]) (R := .agg (ai 22 (dg pp))) prime_r rfl (by kernel_rfl) rfl (by kernel_rfl) (by kernel_rfl) (by kernel_rfl) (fun w => by kernel_rfl)) ?_
    refine ok_cons (ok_call (vs := #[.int .i64 ((1 : Nat) : Int)]) (R := .agg (ai 22 (dg 1))) (fun w => int_r (N := 1) (by decide) w) rfl (by kernel_rfl) rfl (by kernel_rfl) (by kernel_rfl) (by kernel_rfl) (fun w => by kernel_rfl)) ?_
    refine ok_cons (ok_call (vs := #[.agg (ai 22 (dg pp)), .agg (ai 22 (dg 1))]) (R := .agg (ai 22 (dg f0))) cF rfl (by kernel_rfl) rfl (by kernel_rfl) (by kernel_rfl) (by kernel_rfl) (fun w => by kernel_rfl)) ?_
    refine ok_cons (ok_call (vs := #[.agg (ai 22 (dg f0))]) (R := .agg (ai 22 (dg f1))) k4 rfl (by kernel_rfl) rfl (by kernel_rfl) (by kernel_rfl) (by kernel_rfl) (fun w => by kernel_rfl)) ?_
    refine ok_cons (ok_call (vs := #[.agg (ai 22 (dg f1))]) (R := .agg (ai 22 (dg f2))) k5 rfl (by kernel_rfl) rfl (by kernel_rfl) (by kernel_rfl) (by kernel_rfl) (fun w => by kernel_rfl)) ?_
    refine ok_cons (ok_call (vs := #[.agg (ai 22 (dg 2)), .agg (ai 22 (dg f2))]) (R := .agg (ai 22 (dg J))) cJ rfl (by kernel_rfl) rfl (by kernel_rfl) (by kernel_rfl) (by kernel_rfl) (fun w => by kernel_rfl)) ?_
    refine ok_cons (ok_call (vs := #[.agg (ai 22 (dg R)), .agg (ai 22 (dg J))]) (R := .agg (ai 22 (dg (R * J % pp)))) (fun w => times_r (m := R) (n := J) (lt_big (by first | exact mod_pp _ | assumption)) (lt_big (by first | exact mod_pp _ | assumption)) w) rfl (by kernel_rfl) rfl (by kernel_rfl) (by kernel_rfl) (by kernel_rfl) (fun w => by kernel_rfl)) ?_
    refine ok_cons (ok_store (b := 3) (off := 0) (u := .agg (ai 22 (dg (R * J % pp)))) (c := ai 22 (dg R)) (n := ai 22 (dg (R * J % pp))) (st22 (F := (dg (R * J % pp))) (c := ai 22 (dg R)) 35 (ai_size _ _)) rfl (by kernel_rfl) rfl (by kernel_rfl) (by kernel_rfl) (by kernel_rfl) (by kernel_rfl) (by kernel_rfl)) ?_
    exact ok_nil
  clear h; intro β a w h
  refine sym_then ?_
  refine sym_seq ?_
  refine sym_seq ?_
  refine St.region h [.inl (.agg (ai 22 (dg m))), .inr (0, 0), .inr (1, 0), .inl (.bool false), .inr (2, 0), .inr (3, 0), .inl (.agg (ai 22 (dg pp))), .inr (2, 0), .inl (.int .i64 ((((dg pp) 0) : Nat) : Int)), .inl (.int .i64 (((((dg pp) 0) + 3) : Nat) : Int)), .inr (2, 0), .inl (.agg (ai 22 (dg m))), .inl (.agg (ai 22 (dg e0))), .inl (.agg (ai 22 (dg e1))), .inl (.agg (ai 22 (dg e2))), .inl (.agg (ai 22 (dg k))), .inl (.agg (ai 22 (dg R))), .inl (.agg (ai 22 (dg R))), .inl (.agg (ai 22 (dg R))), .inl (.agg (ai 22 (dg (R * R % pp)))), .inl (.agg (ai 22 (dg m))), .inl (.bool true), .inl (.agg (ai 22 (dg R))), .inl (.agg (ai 22 (dg 2))), .inl (.agg (ai 22 (dg pp))), .inl (.agg (ai 22 (dg 1))), .inl (.agg (ai 22 (dg f0))), .inl (.agg (ai 22 (dg f1))), .inl (.agg (ai 22 (dg f2))), .inl (.agg (ai 22 (dg J))), .inl (.agg (ai 22 (dg (R * J % pp)))), .inl (.agg (ai 22 (dg (R * J % pp)))), .inl (.agg (ai 22 (dg (R * J % pp)))), .inl (.agg (ai 22 (dg ((R * J % pp) * (R * J % pp) % pp)))), .inl (.agg (ai 22 (dg m))), .inl (.bool false), uu, uu, uu, uu, uu, uu, uu, uu, uu] [(ai 22 (dg m), 35), (ai 22 (fun _ => 0), 35), (ai 22 (dg e0), 35), (ai 22 (dg (R * J % pp)), 35)] [(ai 22 (dg m), 35), (ai 22 (fun _ => 0), 35), (ai 22 (dg e0), 35), (ai 22 (dg (R * J % pp)), 35)] [#[], #[], #[], #[]] [⟨none, none, some 3, false⟩, ⟨none, none, some 3, false⟩, nn, ⟨none, none, some 0, false⟩, nn] (by kernel_rfl) (by kernel_rfl) (by kernel_rfl) (by kernel_rfl) (by kernel_rfl) (by kernel_rfl) (by kernel_rfl) (by kernel_rfl) ?_ ?_
  · refine ok_cons (ok_load (b := 3) (off := 0) (c := ai 22 (dg (R * J % pp))) (v := .agg (ai 22 (dg (R * J % pp)))) (ld22 (F := (dg (R * J % pp))) 35) rfl (by kernel_rfl) rfl (by kernel_rfl) (by kernel_rfl) (by kernel_rfl)) ?_
    refine ok_cons (ok_load (b := 3) (off := 0) (c := ai 22 (dg (R * J % pp))) (v := .agg (ai 22 (dg (R * J % pp)))) (ld22 (F := (dg (R * J % pp))) 35) rfl (by kernel_rfl) rfl (by kernel_rfl) (by kernel_rfl) (by kernel_rfl)) ?_
    refine ok_cons (ok_call (vs := #[.agg (ai 22 (dg (R * J % pp))), .agg (ai 22 (dg (R * J % pp)))]) (R := .agg (ai 22 (dg ((R * J % pp) * (R * J % pp) % pp)))) (fun w => times_r (m := (R * J % pp)) (n := (R * J % pp)) (lt_big (by first | exact mod_pp _ | assumption)) (lt_big (by first | exact mod_pp _ | assumption)) w) rfl (by kernel_rfl) rfl (by kernel_rfl) (by kernel_rfl) (by kernel_rfl) (fun w => by kernel_rfl)) ?_
    refine ok_cons (ok_load (b := 0) (off := 0) (c := ai 22 (dg m)) (v := .agg (ai 22 (dg m))) (ld22 (F := (dg m)) 35) rfl (by kernel_rfl) rfl (by kernel_rfl) (by kernel_rfl) (by kernel_rfl)) ?_
    refine ok_cons (ok_bin (x1 := .agg (ai 22 (dg ((R * J % pp) * (R * J % pp) % pp)))) (u1 := .agg (ai 22 (dg m))) (v := .bool false) (fun w => by rw [h2]; exact ne22_f m w) rfl (by kernel_rfl) rfl (by kernel_rfl) (by kernel_rfl) (by kernel_rfl) (by kernel_rfl) (by kernel_rfl)) ?_
    exact ok_nil
  clear h; intro β a w h
  refine sym_then ?_
  refine sym_cond_f h (by kernel_rfl) (by kernel_rfl) ?_
  refine wp_skip ?_
  refine sym_then ?_
  refine sym_seq ?_
  refine sym_seq ?_
  refine St.region h [.inl (.agg (ai 22 (dg m))), .inr (0, 0), .inr (1, 0), .inl (.bool false), .inr (2, 0), .inr (3, 0), .inl (.agg (ai 22 (dg pp))), .inr (2, 0), .inl (.int .i64 ((((dg pp) 0) : Nat) : Int)), .inl (.int .i64 (((((dg pp) 0) + 3) : Nat) : Int)), .inr (2, 0), .inl (.agg (ai 22 (dg m))), .inl (.agg (ai 22 (dg e0))), .inl (.agg (ai 22 (dg e1))), .inl (.agg (ai 22 (dg e2))), .inl (.agg (ai 22 (dg k))), .inl (.agg (ai 22 (dg R))), .inl (.agg (ai 22 (dg R))), .inl (.agg (ai 22 (dg R))), .inl (.agg (ai 22 (dg (R * R % pp)))), .inl (.agg (ai 22 (dg m))), .inl (.bool true), .inl (.agg (ai 22 (dg R))), .inl (.agg (ai 22 (dg 2))), .inl (.agg (ai 22 (dg pp))), .inl (.agg (ai 22 (dg 1))), .inl (.agg (ai 22 (dg f0))), .inl (.agg (ai 22 (dg f1))), .inl (.agg (ai 22 (dg f2))), .inl (.agg (ai 22 (dg J))), .inl (.agg (ai 22 (dg (R * J % pp)))), .inl (.agg (ai 22 (dg (R * J % pp)))), .inl (.agg (ai 22 (dg (R * J % pp)))), .inl (.agg (ai 22 (dg ((R * J % pp) * (R * J % pp) % pp)))), .inl (.agg (ai 22 (dg m))), .inl (.bool false), uu, .inr (3, 0), .inl (.int .i64 ((((dg (R * J % pp)) 0) : Nat) : Int)), .inl (.int .i64 (((((dg (R * J % pp)) 0) % 2) : Nat) : Int)), .inl (.bool false), uu, uu, uu, uu] [(ai 22 (dg m), 35), (ai 22 (fun _ => 0), 35), (ai 22 (dg e0), 35), (ai 22 (dg (R * J % pp)), 35)] [(ai 22 (dg m), 35), (ai 22 (fun _ => 0), 35), (ai 22 (dg e0), 35), (ai 22 (dg (R * J % pp)), 35)] [#[], #[], #[], #[]] [nn, ⟨none, none, some 3, false⟩, nn, nn] (by kernel_rfl) (by kernel_rfl) (by kernel_rfl) (by kernel_rfl) (by kernel_rfl) (by kernel_rfl) (by kernel_rfl) (by kernel_rfl) ?_ ?_
  · refine ok_cons (ok_iaddr (b := 3) (off := 0) (off' := 0) (u := .int .i64 ((0 : Nat) : Int)) (ix22 (i := 0) (by omega)) rfl (by kernel_rfl) rfl (by kernel_rfl) (by kernel_rfl) (by kernel_rfl) (by kernel_rfl)) ?_
    refine ok_cons (ok_load (b := 3) (off := 0) (c := ai 22 (dg (R * J % pp))) (v := .int .i64 ((((dg (R * J % pp)) 0) : Nat) : Int)) (ld_at (n := 22) (F := (dg (R * J % pp))) (i := 0) (t0 := 35) (by omega)) rfl (by kernel_rfl) rfl (by kernel_rfl) (by kernel_rfl) (by kernel_rfl)) ?_
    refine ok_cons (ok_bin (x1 := .int .i64 ((((dg (R * J % pp)) 0) : Nat) : Int)) (u1 := .int .i64 ((2 : Nat) : Int)) (v := .int .i64 (((((dg (R * J % pp)) 0) % 2) : Nat) : Int)) (re_i (m := ((dg (R * J % pp)) 0)) (n := 2) (by decide)) rfl (by kernel_rfl) rfl (by kernel_rfl) (by kernel_rfl) (by kernel_rfl) (by kernel_rfl) (by kernel_rfl)) ?_
    refine ok_cons (ok_bin (x1 := .int .i64 (((((dg (R * J % pp)) 0) % 2) : Nat) : Int)) (u1 := .int .i64 ((1 : Nat) : Int)) (v := .bool false) (eq_i (m := (((((dg (R * J % pp)) 0) % 2) : Nat) : Int)) (n := ((1 : Nat) : Int)) (decide_eq_false (by omega))) rfl (by kernel_rfl) rfl (by kernel_rfl) (by kernel_rfl) (by kernel_rfl) (by kernel_rfl) (by kernel_rfl)) ?_
    exact ok_nil
  clear h; intro β a w h
  refine sym_then ?_
  refine sym_cond_f h (by kernel_rfl) (by kernel_rfl) ?_
  refine wp_skip ?_
  refine sym_then ?_
  refine sym_seq ?_
  refine St.region h [.inl (.agg (ai 22 (dg m))), .inr (0, 0), .inr (1, 0), .inl (.bool true), .inr (2, 0), .inr (3, 0), .inl (.agg (ai 22 (dg pp))), .inr (2, 0), .inl (.int .i64 ((((dg pp) 0) : Nat) : Int)), .inl (.int .i64 (((((dg pp) 0) + 3) : Nat) : Int)), .inr (2, 0), .inl (.agg (ai 22 (dg m))), .inl (.agg (ai 22 (dg e0))), .inl (.agg (ai 22 (dg e1))), .inl (.agg (ai 22 (dg e2))), .inl (.agg (ai 22 (dg k))), .inl (.agg (ai 22 (dg R))), .inl (.agg (ai 22 (dg R))), .inl (.agg (ai 22 (dg R))), .inl (.agg (ai 22 (dg (R * R % pp)))), .inl (.agg (ai 22 (dg m))), .inl (.bool true), .inl (.agg (ai 22 (dg R))), .inl (.agg (ai 22 (dg 2))), .inl (.agg (ai 22 (dg pp))), .inl (.agg (ai 22 (dg 1))), .inl (.agg (ai 22 (dg f0))), .inl (.agg (ai 22 (dg f1))), .inl (.agg (ai 22 (dg f2))), .inl (.agg (ai 22 (dg J))), .inl (.agg (ai 22 (dg (R * J % pp)))), .inl (.agg (ai 22 (dg (R * J % pp)))), .inl (.agg (ai 22 (dg (R * J % pp)))), .inl (.agg (ai 22 (dg ((R * J % pp) * (R * J % pp) % pp)))), .inl (.agg (ai 22 (dg m))), .inl (.bool false), uu, .inr (3, 0), .inl (.int .i64 ((((dg (R * J % pp)) 0) : Nat) : Int)), .inl (.int .i64 (((((dg (R * J % pp)) 0) % 2) : Nat) : Int)), .inl (.bool false), uu, uu, uu, .inl (.agg (ai 22 (dg (R * J % pp))))] [(ai 22 (dg m), 35), (ai 22 (dg (R * J % pp)), 35), (ai 22 (dg e0), 35), (ai 22 (dg (R * J % pp)), 35)] [(ai 22 (dg m), 35), (ai 22 (fun _ => 0), 35), (ai 22 (dg e0), 35), (ai 22 (dg (R * J % pp)), 35)] [#[], ai 22 (dg (R * J % pp)), #[], #[]] [⟨none, none, some 3, false⟩, ⟨none, some 1, none, false⟩, nn] (by kernel_rfl) (by kernel_rfl) (by kernel_rfl) (by kernel_rfl) (by kernel_rfl) (by kernel_rfl) (by kernel_rfl) (by kernel_rfl) ?_ ?_
  · refine ok_cons (ok_load (b := 3) (off := 0) (c := ai 22 (dg (R * J % pp))) (v := .agg (ai 22 (dg (R * J % pp)))) (ld22 (F := (dg (R * J % pp))) 35) rfl (by kernel_rfl) rfl (by kernel_rfl) (by kernel_rfl) (by kernel_rfl)) ?_
    refine ok_cons (ok_store (b := 1) (off := 0) (u := .agg (ai 22 (dg (R * J % pp)))) (c := ai 22 (fun _ => 0)) (n := ai 22 (dg (R * J % pp))) (st22 (F := (dg (R * J % pp))) (c := ai 22 (fun _ => 0)) 35 (ai_size _ _)) rfl (by kernel_rfl) rfl (by kernel_rfl) (by kernel_rfl) (by kernel_rfl) (by kernel_rfl) (by kernel_rfl)) ?_
    refine ok_cons (ok_mv (Or.inr rfl) (by kernel_rfl) rfl (by kernel_rfl) (by kernel_rfl)) ?_
    exact ok_nil
  clear h; intro β a w h
  refine sym_then ?_
  refine wp_ret ?_
  exact sym_ret2 (b := 1) (t0 := 35) (c := ai 22 (dg (R * J % pp))) h Try.results39 (by kernel_rfl) (by kernel_rfl) (by kernel_rfl) (by kernel_rfl) (by kernel_rfl) Try.underlying35 rfl (by rw [ai_size]; kernel_rfl) (fun hb => ⟨rfl, hb⟩)

set_option maxHeartbeats 4000000 in
theorem rr_2o {m R J e0 e1 e2 k f0 f1 f2 : Nat} (hm : m < pp) (hR : R < pp) (hE : ai 22 (updN (dg pp) 0 (dg pp 0 + 3)) = ai 22 (dg e0))
    (k1 : (∀ w, Calls Try.prog 70 #[.agg (ai 22 (dg e0))] w fun e w' => e = .returned (.agg (ai 22 (dg e1))) ∧ Below w.heap.size w w')) (k2 : (∀ w, Calls Try.prog 70 #[.agg (ai 22 (dg e1))] w fun e w' => e = .returned (.agg (ai 22 (dg e2))) ∧ Below w.heap.size w w')) (k3 : (∀ w, Calls Try.prog 70 #[.agg (ai 22 (dg e2))] w fun e w' => e = .returned (.agg (ai 22 (dg k))) ∧ Below w.heap.size w w')) (cP : (∀ w, Calls Try.prog 69 #[.agg (ai 22 (dg m)), .agg (ai 22 (dg k))] w fun e w' => e = .returned (.agg (ai 22 (dg R))) ∧ Below w.heap.size w w')) (hJ : J < pp) (cF : (∀ w, Calls Try.prog 71 #[.agg (ai 22 (dg pp)), .agg (ai 22 (dg 1))] w fun e w' => e = .returned (.agg (ai 22 (dg f0))) ∧ Below w.heap.size w w')) (k4 : (∀ w, Calls Try.prog 70 #[.agg (ai 22 (dg f0))] w fun e w' => e = .returned (.agg (ai 22 (dg f1))) ∧ Below w.heap.size w w')) (k5 : (∀ w, Calls Try.prog 70 #[.agg (ai 22 (dg f1))] w fun e w' => e = .returned (.agg (ai 22 (dg f2))) ∧ Below w.heap.size w w')) (cJ : (∀ w, Calls Try.prog 69 #[.agg (ai 22 (dg 2)), .agg (ai 22 (dg f2))] w fun e w' => e = .returned (.agg (ai 22 (dg J))) ∧ Below w.heap.size w w')) (h1 : R * R % pp ≠ m) (h2 : (R * J % pp) * (R * J % pp) % pp = m) (hp : (R * J % pp) % 2 = 1) (W0 : World) : Calls Try.prog 39 #[.agg (ai 22 (dg m))] W0 fun e w' => e = .returned (.tuple #[.agg (ai 22 (dg (pp - (R * J % pp)))), .bool true]) ∧ Below W0.heap.size W0 w' := by
  have g1 := dg_lt pp 0
  have g2 := dg_par (R * J % pp)
  refine sym_enter Try.func39 Try.ntmps39 rfl [.inl (.agg (ai 22 (dg m))), uu, uu, uu, uu, uu, uu, uu, uu, uu, uu, uu, uu, uu, uu, uu, uu, uu, uu, uu, uu, uu, uu, uu, uu, uu, uu, uu, uu, uu, uu, uu, uu, uu, uu, uu, uu, uu, uu, uu, uu, uu, uu, uu, uu] (by kernel_rfl) (by kernel_rfl) ?_
  intro β a h
  refine sym_seq ?_
  refine St.region h [.inl (.agg (ai 22 (dg m))), .inr (0, 0), .inr (1, 0), .inl (.bool false), uu, uu, uu, uu, uu, uu, uu, uu, uu, uu, uu, uu, uu, uu, uu, uu, uu, uu, uu, uu, uu, uu, uu, uu, uu, uu, uu, uu, uu, uu, uu, uu, uu, uu, uu, uu, uu, uu, uu, uu, uu] [(ai 22 (dg m), 35), (ai 22 (fun _ => 0), 35)] [(ai 22 (dg m), 35), (ai 22 (fun _ => 0), 35)] [#[], #[]] [⟨some 0, none, none, false⟩, ⟨some 1, none, none, false⟩, nn] (by kernel_rfl) (by kernel_rfl) (by kernel_rfl) (by kernel_rfl) (by kernel_rfl) (by kernel_rfl) (by kernel_rfl) (by kernel_rfl) ?_ ?_
  · refine ok_cons (ok_box (b := 0) (u := .agg (ai 22 (dg m))) (bx22 (F := (dg m))) rfl (by kernel_rfl) rfl (by kernel_rfl) (by kernel_rfl) (by kernel_rfl) (by kernel_rfl)) ?_
    refine ok_cons (ok_alloc (b := 1) al22 rfl (by kernel_rfl) rfl (by kernel_rfl) (by kernel_rfl)) ?_
    refine ok_cons (ok_mv (Or.inr rfl) (by kernel_rfl) rfl (by kernel_rfl) (by kernel_rfl)) ?_
    exact ok_nil
  clear h; intro β a w h
  refine sym_then ?_
  refine sym_seq ?_
  refine St.region h [.inl (.agg (ai 22 (dg m))), .inr (0, 0), .inr (1, 0), .inl (.bool false), .inr (2, 0), uu, .inl (.agg (ai 22 (dg pp))), uu, uu, uu, uu, uu, uu, uu, uu, uu, uu, uu, uu, uu, uu, uu, uu, uu, uu, uu, uu, uu, uu, uu, uu, uu, uu, uu, uu, uu, uu, uu, uu, uu, uu, uu, uu, uu, uu] [(ai 22 (dg m), 35), (ai 22 (fun _ => 0), 35), (ai 22 (dg pp), 35)] [(ai 22 (dg m), 35), (ai 22 (fun _ => 0), 35), (ai 22 (fun _ => 0), 35)] [#[], #[], ai 22 (dg pp)] [nn, ⟨some 2, none, none, false⟩, ⟨none, some 2, none, false⟩] (by kernel_rfl) (by kernel_rfl) (by kernel_rfl) (by kernel_rfl) (by kernel_rfl) (by kernel_rfl) (by kernel_rfl) (by kernel_rfl) ?_ ?_
  · refine ok_cons (ok_call (vs := #[]) (R := .agg (ai 22 (dg pp))) prime_r rfl (by kernel_rfl) rfl (by kernel_rfl) (by kernel_rfl) (by kernel_rfl) (fun w => by kernel_rfl)) ?_
    refine ok_cons (ok_alloc (b := 2) al22 rfl (by kernel_rfl) rfl (by kernel_rfl) (by kernel_rfl)) ?_
    refine ok_cons (ok_store (b := 2) (off := 0) (u := .agg (ai 22 (dg pp))) (c := ai 22 (fun _ => 0)) (n := ai 22 (dg pp)) (st22 (F := (dg pp)) (c := ai 22 (fun _ => 0)) 35 (ai_size _ _)) rfl (by kernel_rfl) rfl (by kernel_rfl) (by kernel_rfl) (by kernel_rfl) (by kernel_rfl) (by kernel_rfl)) ?_
    exact ok_nil
  clear h; intro β a w h
  refine sym_then ?_
  refine sym_seq ?_
  refine St.region h [.inl (.agg (ai 22 (dg m))), .inr (0, 0), .inr (1, 0), .inl (.bool false), .inr (2, 0), uu, .inl (.agg (ai 22 (dg pp))), .inr (2, 0), .inl (.int .i64 ((((dg pp) 0) : Nat) : Int)), .inl (.int .i64 (((((dg pp) 0) + 3) : Nat) : Int)), .inr (2, 0), uu, uu, uu, uu, uu, uu, uu, uu, uu, uu, uu, uu, uu, uu, uu, uu, uu, uu, uu, uu, uu, uu, uu, uu, uu, uu, uu, uu, uu, uu, uu, uu, uu, uu] [(ai 22 (dg m), 35), (ai 22 (fun _ => 0), 35), (ai 22 (updN (dg pp) 0 (((dg pp) 0) + 3)), 35)] [(ai 22 (dg m), 35), (ai 22 (fun _ => 0), 35), (ai 22 (dg pp), 35)] [#[], #[], ai 22 (updN (dg pp) 0 (((dg pp) 0) + 3))] [nn, ⟨none, none, some 2, false⟩, nn, nn, ⟨none, some 2, none, false⟩] (by kernel_rfl) (by kernel_rfl) (by kernel_rfl) (by kernel_rfl) (by kernel_rfl) (by kernel_rfl) (by kernel_rfl) (by kernel_rfl) ?_ ?_
  · refine ok_cons (ok_iaddr (b := 2) (off := 0) (off' := 0) (u := .int .i64 ((0 : Nat) : Int)) (ix22 (i := 0) (by omega)) rfl (by kernel_rfl) rfl (by kernel_rfl) (by kernel_rfl) (by kernel_rfl) (by kernel_rfl)) ?_
    refine ok_cons (ok_load (b := 2) (off := 0) (c := ai 22 (dg pp)) (v := .int .i64 ((((dg pp) 0) : Nat) : Int)) (ld_at (n := 22) (F := (dg pp)) (i := 0) (t0 := 35) (by omega)) rfl (by kernel_rfl) rfl (by kernel_rfl) (by kernel_rfl) (by kernel_rfl)) ?_
    refine ok_cons (ok_bin (x1 := .int .i64 ((((dg pp) 0) : Nat) : Int)) (u1 := .int .i64 ((3 : Nat) : Int)) (v := .int .i64 (((((dg pp) 0) + 3) : Nat) : Int)) (ad_i (m := ((dg pp) 0)) (n := 3) (by omega)) rfl (by kernel_rfl) rfl (by kernel_rfl) (by kernel_rfl) (by kernel_rfl) (by kernel_rfl) (by kernel_rfl)) ?_
    refine ok_cons (ok_iaddr (b := 2) (off := 0) (off' := 0) (u := .int .i64 ((0 : Nat) : Int)) (ix22 (i := 0) (by omega)) rfl (by kernel_rfl) rfl (by kernel_rfl) (by kernel_rfl) (by kernel_rfl) (by kernel_rfl)) ?_
    refine ok_cons (ok_store (b := 2) (off := 0) (u := .int .i64 (((((dg pp) 0) + 3) : Nat) : Int)) (c := ai 22 (dg pp)) (n := ai 22 (updN (dg pp) 0 (((dg pp) 0) + 3))) (st_at (n := 22) (F := (dg pp)) (i := 0) (v := (((dg pp) 0) + 3)) (t0 := 35) (by omega)) rfl (by kernel_rfl) rfl (by kernel_rfl) (by kernel_rfl) (by kernel_rfl) (by kernel_rfl) (by kernel_rfl)) ?_
    exact ok_nil
  clear h; intro β a w h
  replace h := St.setm h 2 (c := ai 22 (updN (dg pp) 0 (((dg pp) 0) + 3))) (c' := ai 22 (dg e0)) (t := 35) (m' := [(ai 22 (dg m), 35), (ai 22 (fun _ => 0), 35), (ai 22 (dg e0), 35)]) hE (by kernel_rfl) (by kernel_rfl)
  refine sym_then ?_
  refine sym_seq ?_
  refine St.region h [.inl (.agg (ai 22 (dg m))), .inr (0, 0), .inr (1, 0), .inl (.bool false), .inr (2, 0), .inr (3, 0), .inl (.agg (ai 22 (dg pp))), .inr (2, 0), .inl (.int .i64 ((((dg pp) 0) : Nat) : Int)), .inl (.int .i64 (((((dg pp) 0) + 3) : Nat) : Int)), .inr (2, 0), .inl (.agg (ai 22 (dg m))), .inl (.agg (ai 22 (dg e0))), .inl (.agg (ai 22 (dg e1))), .inl (.agg (ai 22 (dg e2))), .inl (.agg (ai 22 (dg k))), .inl (.agg (ai 22 (dg R))), uu, uu, uu, uu, uu, uu, uu, uu, uu, uu, uu, uu, uu, uu, uu, uu, uu, uu, uu, uu, uu, uu, uu, uu, uu, uu, uu, uu] [(ai 22 (dg m), 35), (ai 22 (fun _ => 0), 35), (ai 22 (dg e0), 35), (ai 22 (dg R), 35)] [(ai 22 (dg m), 35), (ai 22 (fun _ => 0), 35), (ai 22 (dg e0), 35), (ai 22 (fun _ => 0), 35)] [#[], #[], #[], ai 22 (dg R)] [⟨none, none, some 0, false⟩, ⟨none, none, some 2, false⟩, nn, nn, nn, nn, ⟨some 3, none, none, false⟩, ⟨none, some 3, none, false⟩] (by kernel_rfl) (by kernel_rfl) (by kernel_rfl) (by kernel_rfl) (by kernel_rfl) (by kernel_rfl) (by kernel_rfl) (by kernel_rfl) ?_ ?_
  · refine ok_cons (ok_load (b := 0) (off := 0) (c := ai 22 (dg m)) (v := .agg (ai 22 (dg m))) (ld22 (F := (dg m)) 35) rfl (by kernel_rfl) rfl (by kernel_rfl) (by kernel_rfl) (by kernel_rfl)) ?_
    refine ok_cons (ok_load (b := 2) (off := 0) (c := ai 22 (dg e0)) (v := .agg (ai 22 (dg e0))) (ld22 (F := (dg e0)) 35) rfl (by kernel_rfl) rfl (by kernel_rfl) (by kernel_rfl) (by kernel_rfl)) ?_
    refine ok_cons (ok_call (vs := #[.agg (ai 22 (dg e0))]) (R := .agg (ai 22 (dg e1))) k1 rfl (by kernel_rfl) rfl (by kernel_rfl) (by kernel_rfl) (by kernel_rfl) (fun w => by kernel_rfl)) ?_
    refine ok_cons (ok_call (vs := #[.agg (ai 22 (dg e1))]) (R := .agg (ai 22 (dg e2))) k2 rfl (by kernel_rfl) rfl (by kernel_rfl) (by kernel_rfl) (by kernel_rfl) (fun w => by kernel_rfl)) ?_
    refine ok_cons (ok_call (vs := #[.agg (ai 22 (dg e2))]) (R := .agg (ai 22 (dg k))) k3 rfl (by kernel_rfl) rfl (by kernel_rfl) (by kernel_rfl) (by kernel_rfl) (fun w => by kernel_rfl)) ?_
    refine ok_cons (ok_call (vs := #[.agg (ai 22 (dg m)), .agg (ai 22 (dg k))]) (R := .agg (ai 22 (dg R))) cP rfl (by kernel_rfl) rfl (by kernel_rfl) (by kernel_rfl) (by kernel_rfl) (fun w => by kernel_rfl)) ?_
    refine ok_cons (ok_alloc (b := 3) al22 rfl (by kernel_rfl) rfl (by kernel_rfl) (by kernel_rfl)) ?_
    refine ok_cons (ok_store (b := 3) (off := 0) (u := .agg (ai 22 (dg R))) (c := ai 22 (fun _ => 0)) (n := ai 22 (dg R)) (st22 (F := (dg R)) (c := ai 22 (fun _ => 0)) 35 (ai_size _ _)) rfl (by kernel_rfl) rfl (by kernel_rfl) (by kernel_rfl) (by kernel_rfl) (by kernel_rfl) (by kernel_rfl)) ?_
    exact ok_nil
  clear h; intro β a w h
  refine sym_then ?_
  refine sym_seq ?_
  refine sym_seq ?_
  refine St.region h [.inl (.agg (ai 22 (dg m))), .inr (0, 0), .inr (1, 0), .inl (.bool false), .inr (2, 0), .inr (3, 0), .inl (.agg (ai 22 (dg pp))), .inr (2, 0), .inl (.int .i64 ((((dg pp) 0) : Nat) : Int)), .inl (.int .i64 (((((dg pp) 0) + 3) : Nat) : Int)), .inr (2, 0), .inl (.agg (ai 22 (dg m))), .inl (.agg (ai 22 (dg e0))), .inl (.agg (ai 22 (dg e1))), .inl (.agg (ai 22 (dg e2))), .inl (.agg (ai 22 (dg k))), .inl (.agg (ai 22 (dg R))), .inl (.agg (ai 22 (dg R))), .inl (.agg (ai 22 (dg R))), .inl (.agg (ai 22 (dg (R * R % pp)))), .inl (.agg (ai 22 (dg m))), .inl (.bool true), uu, uu, uu, uu, uu, uu, uu, uu, uu, uu, uu, uu, uu, uu, uu, uu, uu, uu, uu, uu, uu, uu, uu] [(ai 22 (dg m), 35), (ai 22 (fun _ => 0), 35), (ai 22 (dg e0), 35), (ai 22 (dg R), 35)] [(ai 22 (dg m), 35), (ai 22 (fun _ => 0), 35), (ai 22 (dg e0), 35), (ai 22 (dg R), 35)] [#[], #[], #[], #[]] [⟨none, none, some 3, false⟩, ⟨none, none, some 3, false⟩, nn, ⟨none, none, some 0, false⟩, nn] (by kernel_rfl) (by kernel_rfl) (by kernel_rfl) (by kernel_rfl) (by kernel_rfl) (by kernel_rfl) (by kernel_rfl) (by kernel_rfl) ?_ ?_
  · refine ok_cons (ok_load (b := 3) (off := 0) (c := ai 22 (dg R)) (v := .agg (ai 22 (dg R))) (ld22 (F := (dg R)) 35) rfl (by kernel_rfl) rfl (by kernel_rfl) (by kernel_rfl) (by kernel_rfl)) ?_
    refine ok_cons (ok_load (b := 3) (off := 0) (c := ai 22 (dg R)) (v := .agg (ai 22 (dg R))) (ld22 (F := (dg R)) 35) rfl (by kernel_rfl) rfl (by kernel_rfl) (by kernel_rfl) (by kernel_rfl)) ?_
    refine ok_cons (ok_call (vs := #[.agg (ai 22 (dg R)), .agg (ai 22 (dg R))]) (R := .agg (ai 22 (dg (R * R % pp)))) (fun w => times_r (m := R) (n := R) (lt_big (by first | exact mod_pp _ | assumption)) (lt_big (by first | exact mod_pp _ | assumption)) w) rfl (by kernel_rfl) rfl (by kernel_rfl) (by kernel_rfl) (by kernel_rfl) (fun w => by kernel_rfl)) ?_
    refine ok_cons (ok_load (b := 0) (off := 0) (c := ai 22 (dg m)) (v := .agg (ai 22 (dg m))) (ld22 (F := (dg m)) 35) rfl (by kernel_rfl) rfl (by kernel_rfl) (by kernel_rfl) (by kernel_rfl)) ?_
    refine ok_cons (ok_bin (x1 := .agg (ai 22 (dg (R * R % pp)))) (u1 := .agg (ai 22 (dg m))) (v := .bool true) (ne22_t (lt_big (mod_pp _)) (lt_big hm) h1) rfl (by kernel_rfl) rfl (by kernel_rfl) (by kernel_rfl) (by kernel_rfl) (by kernel_rfl) (by kernel_rfl)) ?_
    exact ok_nil
  clear h; intro β a w h
  refine sym_then ?_
  refine sym_cond_t h (by kernel_rfl) (by kernel_rfl) ?_
  refine St.region h [.inl (.agg (ai 22 (dg m))), .inr (0, 0), .inr (1, 0), .inl (.bool false), .inr (2, 0), .inr (3, 0), .inl (.agg (ai 22 (dg pp))), .inr (2, 0), .inl (.int .i64 ((((dg pp) 0) : Nat) : Int)), .inl (.int .i64 (((((dg pp) 0) + 3) : Nat) : Int)), .inr (2, 0), .inl (.agg (ai 22 (dg m))), .inl (.agg (ai 22 (dg e0))), .inl (.agg (ai 22 (dg e1))), .inl (.agg (ai 22 (dg e2))), .inl (.agg (ai 22 (dg k))), .inl (.agg (ai 22 (dg R))), .inl (.agg (ai 22 (dg R))), .inl (.agg (ai 22 (dg R))), .inl (.agg (ai 22 (dg (R * R % pp)))), .inl (.agg (ai 22 (dg m))), .inl (.bool true), .inl (.agg (ai 22 (dg R))), .inl (.agg (ai 22 (dg 2))), .inl (.agg (ai 22 (dg pp))), .inl (.agg (ai 22 (dg 1))), .inl (.agg (ai 22 (dg f0))), .inl (.agg (ai 22 (dg f1))), .inl (.agg (ai 22 (dg f2))), .inl (.agg (ai 22 (dg J))), .inl (.agg (ai 22 (dg (R * J % pp)))), uu, uu, uu, uu, uu, uu, uu, uu, uu, uu, uu, uu, uu, uu] [(ai 22 (dg m), 35), (ai 22 (fun _ => 0), 35), (ai 22 (dg e0), 35), (ai 22 (dg (R * J % pp)), 35)] [(ai 22 (dg m), 35), (ai 22 (fun _ => 0), 35), (ai 22 (dg e0), 35), (ai 22 (dg R), 35)] [#[], #[], #[], ai 22 (dg (R * J % pp))] [⟨none, none, some 3, false⟩, nn, nn, nn, nn, nn, nn, nn, nn, ⟨none, some 3, none, false⟩] (by kernel_rfl) (by kernel_rfl) (by kernel_rfl) (by kernel_rfl) (by kernel_rfl) (by kernel_rfl) (by kernel_rfl) (by kernel_rfl) ?_ ?_
  · refine ok_cons (ok_load (b := 3) (off := 0) (c := ai 22 (dg R)) (v := .agg (ai 22 (dg R))) (ld22 (F := (dg R)) 35) rfl (by kernel_rfl) rfl (by kernel_rfl) (by kernel_rfl) (by kernel_rfl)) ?_
    refine ok_cons (ok_call (vs := #[.int .i64 ((2 : Nat) : Int)]) (R := .agg (ai 22 (dg 2))) (fun w => int_r (N := 2) (by decide) w) rfl (by kernel_rfl) rfl (by kernel_rfl) (by kernel_rfl) (by kernel_rfl) (fun w => by kernel_rfl)) ?_
    refine ok_cons (ok_call (vs := #[]) (R := .agg (ai 22 (dg pp))) prime_r rfl (by kernel_rfl) rfl (by kernel_rfl) (by kernel_rfl) (by kernel_rfl) (fun w => by kernel_rfl)) ?_
    refine ok_cons (ok_call (vs := #[.int .i64 ((1 : Nat) : Int)]) (R := .agg (ai 22 (dg 1))) (fun w => int_r (N := 1) (by decide) w) rfl (by kernel_rfl) rfl (by kernel_rfl) (by kernel_rfl) (by kernel_rfl) (fun w => by kernel_rfl)) ?_
    refine ok_cons (ok_call (vs := #[.agg (ai 22 (dg pp)), .agg (ai 22 (dg 1))]) (R := .agg (ai 22 (dg f0))) cF rfl (by kernel_rfl) rfl (by kernel_rfl) (by kernel_rfl) (by kernel_rfl) (fun w => by kernel_rfl)) ?_
    refine ok_cons (ok_call (vs := #[.agg (ai 22 (dg f0))]) (R := .agg (ai 22 (dg f1))) k4 rfl (by kernel_rfl) rfl (by kernel_rfl) (by kernel_rfl) (by kernel_rfl) (fun w => by kernel_rfl)) ?_
    refine ok_cons (ok_call (vs := #[.agg (ai 22 (dg f1))]) (R := .agg (ai 22 (dg f2))) k5 rfl (by kernel_rfl) rfl (by kernel_rfl) (by kernel_rfl) (by kernel_rfl) (fun w => by kernel_rfl)) ?_
    refine ok_cons (ok_call (vs := #[.agg (ai 22 (dg 2)), .agg (ai 22 (dg f2))]) (R := .agg (ai 22 (dg J))) cJ rfl (by kernel_rfl) rfl (by kernel_rfl) (by kernel_rfl) (by kernel_rfl) (fun w => by kernel_rfl)) ?_
    refine ok_cons (ok_call (vs := #[.agg (ai 22 (dg R)), .agg (ai 22 (dg J))]) (R := .agg (ai 22 (dg (R * J % pp)))) (fun w => times_r (m := R) (n := J) (lt_big (by first | exact mod_pp _ | assumption)) (lt_big (by first | exact mod_pp _ | assumption)) w) rfl (by kernel_rfl) rfl (by kernel_rfl) (by kernel_rfl) (by kernel_rfl) (fun w => by kernel_rfl)) ?_
    refine ok_cons (ok_store (b := 3) (off := 0) (u := .agg (ai 22 (dg (R * J % pp)))) (c := ai 22 (dg R)) (n := ai 22 (dg (R * J % pp))) (st22 (F := (dg (R * J % pp))) (c := ai 22 (dg R)) 35 (ai_size _ _)) rfl (by kernel_rfl) rfl (by kernel_rfl) (by kernel_rfl) (by kernel_rfl) (by kernel_rfl) (by kernel_rfl)) ?_
    exact ok_nil
  clear h; intro β a w h
  refine sym_then ?_
  refine sym_seq ?_
  refine sym_seq ?_
  refine St.region h [.inl (.agg (ai 22 (dg m))), .inr (0, 0), .inr (1, 0), .inl (.bool false), .inr (2, 0), .inr (3, 0), .inl (.agg (ai 22 (dg pp))), .inr (2, 0), .inl (.int .i64 ((((dg pp) 0) : Nat) : Int)), .inl (.int .i64 (((((dg pp) 0) + 3) : Nat) : Int)), .inr (2, 0), .inl (.agg (ai 22 (dg m))), .inl (.agg (ai 22 (dg e0))), .inl (.agg (ai 22 (dg e1))), .inl (.agg (ai 22 (dg e2))), .inl (.agg (ai 22 (dg k))), .inl (.agg (ai 22 (dg R))), .inl (.agg (ai 22 (dg R))), .inl (.agg (ai 22 (dg R))), .inl (.agg (ai 22 (dg (R * R % pp)))), .inl (.agg (ai 22 (dg m))), .inl (.bool true), .inl (.agg (ai 22 (dg R))), .inl (.agg (ai 22 (dg 2))), .inl (.agg (ai 22 (dg pp))), .inl (.agg (ai 22 (dg 1))), .inl (.agg (ai 22 (dg f0))), .inl (.agg (ai 22 (dg f1))), .inl (.agg (ai 22 (dg f2))), .inl (.agg (ai 22 (dg J))), .inl (.agg (ai 22 (dg (R * J % pp)))), .inl (.agg (ai 22 (dg (R * J % pp)))), .inl (.agg (ai 22 (dg (R * J % pp)))), .inl (.agg (ai 22 (dg ((R * J % pp) * (R * J % pp) % pp)))), .inl (.agg (ai 22 (dg m))), .inl (.bool false), uu, uu, uu, uu, uu, uu, uu, uu, uu] [(ai 22 (dg m), 35), (ai 22 (fun _ => 0), 35), (ai 22 (dg e0), 35), (ai 22 (dg (R * J % pp)), 35)] [(ai 22 (dg m), 35), (ai 22 (fun _ => 0), 35), (ai 22 (dg e0), 35), (ai 22 (dg (R * J % pp)), 35)] [#[], #[], #[], #[]] [⟨none, none, some 3, false⟩, ⟨none, none, some 3, false⟩, nn, ⟨none, none, some 0, false⟩, nn] (by kernel_rfl) (by kernel_rfl) (by kernel_rfl) (by kernel_rfl) (by kernel_rfl) (by kernel_rfl) (by kernel_rfl) (by kernel_rfl) ?_ ?_
  · refine ok_cons (ok_load (b := 3) (off := 0) (c := ai 22 (dg (R * J % pp))) (v := .agg (ai 22 (dg (R * J % pp)))) (ld22 (F := (dg (R * J % pp))) 35) rfl (by kernel_rfl) rfl (by kernel_rfl) (by kernel_rfl) (by kernel_rfl)) ?_
    refine ok_cons (ok_load (b := 3) (off := 0) (c := ai 22 (dg (R * J % pp))) (v := .agg (ai 22 (dg (R * J % pp)))) (ld22 (F := (dg (R * J % pp))) 35) rfl (by kernel_rfl) rfl (by kernel_rfl) (by kernel_rfl) (by kernel_rfl)) ?_
    refine ok_cons (ok_call (vs := #[.agg (ai 22 (dg (R * J % pp))), .agg (ai 22 (dg (R * J % pp)))]) (R := .agg (ai 22 (dg ((R * J % pp) * (R * J % pp) % pp)))) (fun w => times_r (m := (R * J % pp)) (n := (R * J % pp)) (lt_big (by first | exact mod_pp _ | assumption)) (lt_big (by first | exact mod_pp _ | assumption)) w) rfl (by kernel_rfl) rfl (by kernel_rfl) (by kernel_rfl) (by kernel_rfl) (fun w => by kernel_rfl)) ?_
    refine ok_cons (ok_load (b := 0) (off := 0) (c := ai 22 (dg m)) (v := .agg (ai 22 (dg m))) (ld22 (F := (dg m)) 35) rfl (by kernel_rfl) rfl (by kernel_rfl) (by kernel_rfl) (by kernel_rfl)) ?_
    refine ok_cons (ok_bin (x1 := .agg (ai 22 (dg ((R * J % pp) * (R * J % pp) % pp)))) (u1 := .agg (ai 22 (dg m))) (v := .bool false) (fun w => by rw [h2]; exact ne22_f m w) rfl (by kernel_rfl) rfl (by kernel_rfl) (by kernel_rfl) (by kernel_rfl) (by kernel_rfl) (by kernel_rfl)) ?_
    exact ok_nil
  clear h; intro β a w h
  refine sym_then ?_
  refine sym_cond_f h (by kernel_rfl) (by kernel_rfl) ?_
  refine wp_skip ?_
  refine sym_then ?_
  refine sym_seq ?_
  refine sym_seq ?_
  refine St.region h [.inl (.agg (ai 22 (dg m))), .inr (0, 0), .inr (1, 0), .inl (.bool false), .inr (2, 0), .inr (3, 0), .inl (.agg (ai 22 (dg pp))), .inr (2, 0), .inl (.int .i64 ((((dg pp) 0) : Nat) : Int)), .inl (.int .i64 (((((dg pp) 0) + 3) : Nat) : Int)), .inr (2, 0), .inl (.agg (ai 22 (dg m))), .inl (.agg (ai 22 (dg e0))), .inl (.agg (ai 22 (dg e1))), .inl (.agg (ai 22 (dg e2))), .inl (.agg (ai 22 (dg k))), .inl (.agg (ai 22 (dg R))), .inl (.agg (ai 22 (dg R))), .inl (.agg (ai 22 (dg R))), .inl (.agg (ai 22 (dg (R * R % pp)))), .inl (.agg (ai 22 (dg m))), .inl (.bool true), .inl (.agg (ai 22 (dg R))), .inl (.agg (ai 22 (dg 2))), .inl (.agg (ai 22 (dg pp))), .inl (.agg (ai 22 (dg 1))), .inl (.agg (ai 22 (dg f0))), .inl (.agg (ai 22 (dg f1))), .inl (.agg (ai 22 (dg f2))), .inl (.agg (ai 22 (dg J))), .inl (.agg (ai 22 (dg (R * J % pp)))), .inl (.agg (ai 22 (dg (R * J % pp)))), .inl (.agg (ai 22 (dg (R * J % pp)))), .inl (.agg (ai 22 (dg ((R * J % pp) * (R * J % pp) % pp)))), .inl (.agg (ai 22 (dg m))), .inl (.bool false), uu, .inr (3, 0), .inl (.int .i64 ((((dg (R * J % pp)) 0) : Nat) : Int)), .inl (.int .i64 (((((dg (R * J % pp)) 0) % 2) : Nat) : Int)), .inl (.bool true), uu, uu, uu, uu] [(ai 22 (dg m), 35), (ai 22 (fun _ => 0), 35), (ai 22 (dg e0), 35), (ai 22 (dg (R * J % pp)), 35)] [(ai 22 (dg m), 35), (ai 22 (fun _ => 0), 35), (ai 22 (dg e0), 35), (ai 22 (dg (R * J % pp)), 35)] [#[], #[], #[], #[]] [nn, ⟨none, none, some 3, false⟩, nn, nn] (by kernel_rfl) (by kernel_rfl) (by kernel_rfl) (by kernel_rfl) (by kernel_rfl) (by kernel_rfl) (by kernel_rfl) (by kernel_rfl) ?_ ?_
  · refine ok_cons (ok_iaddr (b := 3) (off := 0) (off' := 0) (u := .int .i64 ((0 : Nat) : Int)) (ix22 (i := 0) (by omega)) rfl (by kernel_rfl) rfl (by kernel_rfl) (by kernel_rfl) (by kernel_rfl) (by kernel_rfl)) ?_
    refine ok_cons (ok_load (b := 3) (off := 0) (c := ai 22 (dg (R * J % pp))) (v := .int .i64 ((((dg (R * J % pp)) 0) : Nat) : Int)) (ld_at (n := 22) (F := (dg (R * J % pp))) (i := 0) (t0 := 35) (by omega)) rfl (by kernel_rfl) rfl (by kernel_rfl) (by kernel_rfl) (by kernel_rfl)) ?_
    refine ok_cons (ok_bin (x1 := .int .i64 ((((dg (R * J % pp)) 0) : Nat) : Int)) (u1 := .int .i64 ((2 : Nat) : Int)) (v := .int .i64 (((((dg (R * J % pp)) 0) % 2) : Nat) : Int)) (re_i (m := ((dg (R * J % pp)) 0)) (n := 2) (by decide)) rfl (by kernel_rfl) rfl (by kernel_rfl) (by kernel_rfl) (by kernel_rfl) (by kernel_rfl) (by kernel_rfl)) ?_
    refine ok_cons (ok_bin (x1 := .int .i64 (((((dg (R * J % pp)) 0) % 2) : Nat) : Int)) (u1 := .int .i64 ((1 : Nat) : Int)) (v := .bool true) (eq_i (m := (((((dg (R * J % pp)) 0) % 2) : Nat) : Int)) (n := ((1 : Nat) : Int)) (decide_eq_true (by omega))) rfl (by kernel_rfl) rfl (by kernel_rfl) (by kernel_rfl) (by kernel_rfl) (by kernel_rfl) (by kernel_rfl)) ?_
    exact ok_nil
  clear h; intro β a w h
  refine sym_then ?_
  refine sym_cond_t h (by kernel_rfl) (by kernel_rfl) ?_
  refine St.region h [.inl (.agg (ai 22 (dg m))), .inr (0, 0), .inr (1, 0), .inl (.bool false), .inr (2, 0), .inr (3, 0), .inl (.agg (ai 22 (dg pp))), .inr (2, 0), .inl (.int .i64 ((((dg pp) 0) : Nat) : Int)), .inl (.int .i64 (((((dg pp) 0) + 3) : Nat) : Int)), .inr (2, 0), .inl (.agg (ai 22 (dg m))), .inl (.agg (ai 22 (dg e0))), .inl (.agg (ai 22 (dg e1))), .inl (.agg (ai 22 (dg e2))), .inl (.agg (ai 22 (dg k))), .inl (.agg (ai 22 (dg R))), .inl (.agg (ai 22 (dg R))), .inl (.agg (ai 22 (dg R))), .inl (.agg (ai 22 (dg (R * R % pp)))), .inl (.agg (ai 22 (dg m))), .inl (.bool true), .inl (.agg (ai 22 (dg R))), .inl (.agg (ai 22 (dg 2))), .inl (.agg (ai 22 (dg pp))), .inl (.agg (ai 22 (dg 1))), .inl (.agg (ai 22 (dg f0))), .inl (.agg (ai 22 (dg f1))), .inl (.agg (ai 22 (dg f2))), .inl (.agg (ai 22 (dg J))), .inl (.agg (ai 22 (dg (R * J % pp)))), .inl (.agg (ai 22 (dg (R * J % pp)))), .inl (.agg (ai 22 (dg (R * J % pp)))), .inl (.agg (ai 22 (dg ((R * J % pp) * (R * J % pp) % pp)))), .inl (.agg (ai 22 (dg m))), .inl (.bool false), uu, .inr (3, 0), .inl (.int .i64 ((((dg (R * J % pp)) 0) : Nat) : Int)), .inl (.int .i64 (((((dg (R * J % pp)) 0) % 2) : Nat) : Int)), .inl (.bool true), .inl (.agg (ai 22 (dg pp))), .inl (.agg (ai 22 (dg (R * J % pp)))), .inl (.agg (ai 22 (dg (pp - (R * J % pp))))), uu] [(ai 22 (dg m), 35), (ai 22 (fun _ => 0), 35), (ai 22 (dg e0), 35), (ai 22 (dg (pp - (R * J % pp))), 35)] [(ai 22 (dg m), 35), (ai 22 (fun _ => 0), 35), (ai 22 (dg e0), 35), (ai 22 (dg (R * J % pp)), 35)] [#[], #[], #[], ai 22 (dg (pp - (R * J % pp)))] [nn, ⟨none, none, some 3, false⟩, nn, ⟨none, some 3, none, false⟩] (by kernel_rfl) (by kernel_rfl) (by kernel_rfl) (by kernel_rfl) (by kernel_rfl) (by kernel_rfl) (by kernel_rfl) (by kernel_rfl) ?_ ?_
  · refine ok_cons (ok_call (vs := #[]) (R := .agg (ai 22 (dg pp))) prime_r rfl (by kernel_rfl) rfl (by kernel_rfl) (by kernel_rfl) (by kernel_rfl) (fun w => by kernel_rfl)) ?_
    refine ok_cons (ok_load (b := 3) (off := 0) (c := ai 22 (dg (R * J % pp))) (v := .agg (ai 22 (dg (R * J % pp)))) (ld22 (F := (dg (R * J % pp))) 35) rfl (by kernel_rfl) rfl (by kernel_rfl) (by kernel_rfl) (by kernel_rfl)) ?_
    refine ok_cons (ok_call (vs := #[.agg (ai 22 (dg pp)), .agg (ai 22 (dg (R * J % pp)))]) (R := .agg (ai 22 (dg (pp - (R * J % pp))))) (fun w => less_r (Nat.le_of_lt (mod_pp _)) w) rfl (by kernel_rfl) rfl (by kernel_rfl) (by kernel_rfl) (by kernel_rfl) (fun w => by kernel_rfl)) ?_
    refine ok_cons (ok_store (b := 3) (off := 0) (u := .agg (ai 22 (dg (pp - (R * J % pp))))) (c := ai 22 (dg (R * J % pp))) (n := ai 22 (dg (pp - (R * J % pp)))) (st22 (F := (dg (pp - (R * J % pp)))) (c := ai 22 (dg (R * J % pp))) 35 (ai_size _ _)) rfl (by kernel_rfl) rfl (by kernel_rfl) (by kernel_rfl) (by kernel_rfl) (by kernel_rfl) (by kernel_rfl)) ?_
    exact ok_nil
  clear h; intro β a w h
  refine sym_then ?_
  refine sym_seq ?_
  refine St.region h [.inl (.agg (ai 22 (dg m))), .inr (0, 0), .inr (1, 0), .inl (.bool true), .inr (2, 0), .inr (3, 0), .inl (.agg (ai 22 (dg pp))), .inr (2, 0), .inl (.int .i64 ((((dg pp) 0) : Nat) : Int)), .inl (.int .i64 (((((dg pp) 0) + 3) : Nat) : Int)), .inr (2, 0), .inl (.agg (ai 22 (dg m))), .inl (.agg (ai 22 (dg e0))), .inl (.agg (ai 22 (dg e1))), .inl (.agg (ai 22 (dg e2))), .inl (.agg (ai 22 (dg k))), .inl (.agg (ai 22 (dg R))), .inl (.agg (ai 22 (dg R))), .inl (.agg (ai 22 (dg R))), .inl (.agg (ai 22 (dg (R * R % pp)))), .inl (.agg (ai 22 (dg m))), .inl (.bool true), .inl (.agg (ai 22 (dg R))), .inl (.agg (ai 22 (dg 2))), .inl (.agg (ai 22 (dg pp))), .inl (.agg (ai 22 (dg 1))), .inl (.agg (ai 22 (dg f0))), .inl (.agg (ai 22 (dg f1))), .inl (.agg (ai 22 (dg f2))), .inl (.agg (ai 22 (dg J))), .inl (.agg (ai 22 (dg (R * J % pp)))), .inl (.agg (ai 22 (dg (R * J % pp)))), .inl (.agg (ai 22 (dg (R * J % pp)))), .inl (.agg (ai 22 (dg ((R * J % pp) * (R * J % pp) % pp)))), .inl (.agg (ai 22 (dg m))), .inl (.bool false), uu, .inr (3, 0), .inl (.int .i64 ((((dg (R * J % pp)) 0) : Nat) : Int)), .inl (.int .i64 (((((dg (R * J % pp)) 0) % 2) : Nat) : Int)), .inl (.bool true), .inl (.agg (ai 22 (dg pp))), .inl (.agg (ai 22 (dg (R * J % pp)))), .inl (.agg (ai 22 (dg (pp - (R * J % pp))))), .inl (.agg (ai 22 (dg (pp - (R * J % pp)))))] [(ai 22 (dg m), 35), (ai 22 (dg (pp - (R * J % pp))), 35), (ai 22 (dg e0), 35), (ai 22 (dg (pp - (R * J % pp))), 35)] [(ai 22 (dg m), 35), (ai 22 (fun _ => 0), 35), (ai 22 (dg e0), 35), (ai 22 (dg (pp - (R * J % pp))), 35)] [#[], ai 22 (dg (pp - (R * J % pp))), #[], #[]] [⟨none, none, some 3, false⟩, ⟨none, some 1, none, false⟩, nn] (by kernel_rfl) (by kernel_rfl) (by kernel_rfl) (by kernel_rfl) (by kernel_rfl) (by kernel_rfl) (by kernel_rfl) (by kernel_rfl) ?_ ?_
  · refine ok_cons (ok_load (b := 3) (off := 0) (c := ai 22 (dg (pp - (R * J % pp)))) (v := .agg (ai 22 (dg (pp - (R * J % pp))))) (ld22 (F := (dg (pp - (R * J % pp)))) 35) rfl (by kernel_rfl) rfl (by kernel_rfl) (by kernel_rfl) (by kernel_rfl)) ?_
    refine ok_cons (ok_store (b := 1) (off := 0) (u := .agg (ai 22 (dg (pp - (R * J % pp))))) (c := ai 22 (fun _ => 0)) (n := ai 22 (dg (pp - (R * J % pp)))) (st22 (F := (dg (pp - (R * J % pp)))) (c := ai 22 (fun _ => 0)) 35 (ai_size _ _)) rfl (by kernel_rfl) rfl (by kernel_rfl) (by kernel_rfl) (by kernel_rfl) (by kernel_rfl) (by kernel_rfl)) ?_
    refine ok_cons (ok_mv (Or.inr rfl) (by kernel_rfl) rfl (by kernel_rfl) (by kernel_rfl)) ?_
    exact ok_nil
  clear h; intro β a w h
  refine sym_then ?_
  refine wp_ret ?_
  exact sym_ret2 (b := 1) (t0 := 35) (c := ai 22 (dg (pp - (R * J % pp)))) h Try.results39 (by kernel_rfl) (by kernel_rfl) (by kernel_rfl) (by kernel_rfl) (by kernel_rfl) Try.underlying35 rfl (by rw [ai_size]; kernel_rfl) (fun hb => ⟨rfl, hb⟩)

theorem i_pow : ∀ f, f = (pp - 1) / 2 / 2 → 2 ^ f % pp = iRt := by
  intro f hf
  have hb : f < 2 ^ 255 := by rw [hf]; decide +kernel
  rw [← pmod_eq 2 pp 255 f hb, hf]
  decide +kernel
theorem odd_neg {y : Nat} (hy : y < pp) (ho : y % 2 = 1) : (0 + (pp - y)) % pp = pp - y := by
  rw [Nat.zero_add]; exact Nat.mod_eq_of_lt (by omega)
/-- Both roots: the program's and the document's. -/
theorem root_both {m : Nat} (hm : m < pp) : ∃ (r : Nat) (b : Bool), r < pp ∧ (∀ w, Calls Try.prog 63 #[el (dig m)] w fun e w' => e = .returned (.tuple #[el (dig r), .bool b]) ∧ Below w.heap.size w w') ∧ (∀ w, Calls Try.prog 39 #[.agg (ai 22 (dg m))] w fun e w' => e = .returned (.tuple #[.agg (ai 22 (dg r)), .bool b]) ∧ Below w.heap.size w w') := by
  obtain ⟨k, hk, c⟩ := anyRoot_d hm
  have hE : ai 22 (updN (dg pp) 0 (dg pp 0 + 3)) = ai 22 (dg (pp + 3)) := ai_congr (by decide +kernel)
  have b0 : pp + 3 < 4096 ^ 22 := by decide +kernel
  have b1 : (pp + 3) / 2 < 4096 ^ 22 := by decide +kernel
  have b2 : (pp + 3) / 2 / 2 < 4096 ^ 22 := by decide +kernel
  have ek : (pp + 3) / 2 / 2 / 2 = k := by rw [hk.out]; decide +kernel
  have hk2 : k < 2 ^ 255 := by rw [← ek]; decide +kernel
  have k1 := half_r b0
  have k2 := half_r b1
  have k3 := half_r b2
  rw [ek] at k3
  have cP := power_r hm hk2
  have hR : m ^ k % pp < pp := mod_pp _
  have d0 : pp - 1 < 4096 ^ 22 := by decide +kernel
  have d1 : (pp - 1) / 2 < 4096 ^ 22 := by decide +kernel
  have cF := less_r (m := pp) (n := 1) (Nat.le_of_lt one_lt)
  have k4 := half_r d0
  have k5 := half_r d1
  obtain ⟨f2, hf2⟩ : ∃ f2, (pp - 1) / 2 / 2 = f2 := ⟨_, rfl⟩
  have hf255 : f2 < 2 ^ 255 := by rw [← hf2]; decide +kernel
  rw [hf2] at k5
  have cJ := power_r two_lt hf255
  rw [i_pow f2 hf2.symm] at cJ
  have hJ := iRt_lt
  have at1 : ∀ R m : Nat, R * R % pp = m → aRt R m = R := fun _ _ h => aRt_t h
  have at2 : ∀ R m : Nat, ¬ R * R % pp = m → aRt R m = R * iRt % pp := fun _ _ h => aRt_f h
  generalize m ^ k % pp = R at *
  generalize iRt = J at *
  clear hf2 ek hk hk2 hf255
  by_cases h1 : R * R % pp = m
  · rw [at1 R m h1, decide_eq_true h1] at c
    rcases (show R % 2 = 0 ∨ R % 2 = 1 by omega) with hp | hp
    · exact ⟨R, true, hR, root_ev hR (decide_eq_true hp) c, rr_1e hR hE k1 k2 k3 cP h1 hp⟩
    · have := root_od hR (decide_eq_false (by omega)) c
      rw [odd_neg hR hp] at this
      exact ⟨pp - R, true, by omega, this, rr_1o hR hE k1 k2 k3 cP h1 hp⟩
  · rw [at2 R m h1] at c
    have hy : R * J % pp < pp := mod_pp _
    by_cases h2 : (R * J % pp) * (R * J % pp) % pp = m
    · rw [decide_eq_true h2] at c
      rcases (show (R * J % pp) % 2 = 0 ∨ (R * J % pp) % 2 = 1 by omega) with hp | hp
      · exact ⟨_, true, hy, root_ev hy (decide_eq_true hp) c, rr_2e hm hR hE k1 k2 k3 cP hJ cF k4 k5 cJ h1 h2 hp⟩
      · have := root_od hy (decide_eq_false (by omega)) c
        rw [odd_neg hy hp] at this
        exact ⟨_, true, by omega, this, rr_2o hm hR hE k1 k2 k3 cP hJ cF k4 k5 cJ h1 h2 hp⟩
    · rw [decide_eq_false h2] at c
      exact ⟨0, false, pp_pos, root_no c, rr_2n hm hR hE k1 k2 k3 cP hJ cF k4 k5 cJ h1 h2⟩
end Go.Proofs.Ytgiemldmphbolaa

namespace Go.Proofs.Ytgiemldmphbolaa
open Go.RowKit
/-- Both roots: the program's and the document's. -/
theorem root_b2 {m : Nat} (hm : m < pp) : ∃ (r : Nat) (b : Bool), r < pp ∧ (b = true → r % 2 = 0 ∧ r * r % pp = m) ∧ (∀ w, Calls Try.prog 63 #[el (dig m)] w fun e w' => e = .returned (.tuple #[el (dig r), .bool b]) ∧ Below w.heap.size w w') ∧ (∀ w, Calls Try.prog 39 #[.agg (ai 22 (dg m))] w fun e w' => e = .returned (.tuple #[.agg (ai 22 (dg r)), .bool b]) ∧ Below w.heap.size w w') := by
  obtain ⟨k, hk, c⟩ := anyRoot_d hm
  have hE : ai 22 (updN (dg pp) 0 (dg pp 0 + 3)) = ai 22 (dg (pp + 3)) := ai_congr (by decide +kernel)
  have b0 : pp + 3 < 4096 ^ 22 := by decide +kernel
  have b1 : (pp + 3) / 2 < 4096 ^ 22 := by decide +kernel
  have b2 : (pp + 3) / 2 / 2 < 4096 ^ 22 := by decide +kernel
  have ek : (pp + 3) / 2 / 2 / 2 = k := by rw [hk.out]; decide +kernel
  have hk2 : k < 2 ^ 255 := by rw [← ek]; decide +kernel
  have k1 := half_r b0
  have k2 := half_r b1
  have k3 := half_r b2
  rw [ek] at k3
  have cP := power_r hm hk2
  have hR : m ^ k % pp < pp := mod_pp _
  have d0 : pp - 1 < 4096 ^ 22 := by decide +kernel
  have d1 : (pp - 1) / 2 < 4096 ^ 22 := by decide +kernel
  have cF := less_r (m := pp) (n := 1) (Nat.le_of_lt one_lt)
  have k4 := half_r d0
  have k5 := half_r d1
  obtain ⟨f2, hf2⟩ : ∃ f2, (pp - 1) / 2 / 2 = f2 := ⟨_, rfl⟩
  have hf255 : f2 < 2 ^ 255 := by rw [← hf2]; decide +kernel
  rw [hf2] at k5
  have cJ := power_r two_lt hf255
  rw [i_pow f2 hf2.symm] at cJ
  have hJ := iRt_lt
  have at1 : ∀ R m : Nat, R * R % pp = m → aRt R m = R := fun _ _ h => aRt_t h
  have at2 : ∀ R m : Nat, ¬ R * R % pp = m → aRt R m = R * iRt % pp := fun _ _ h => aRt_f h
  generalize m ^ k % pp = R at *
  generalize iRt = J at *
  clear hf2 ek hk hk2 hf255
  by_cases h1 : R * R % pp = m
  · rw [at1 R m h1, decide_eq_true h1] at c
    rcases (show R % 2 = 0 ∨ R % 2 = 1 by omega) with hp | hp
    · exact ⟨R, true, hR, fun _ => ⟨hp, h1⟩, root_ev hR (decide_eq_true hp) c, rr_1e hR hE k1 k2 k3 cP h1 hp⟩
    · have := root_od hR (decide_eq_false (by omega)) c
      rw [odd_neg hR hp] at this
      exact ⟨pp - R, true, by omega, fun _ => ⟨by have := pp_odd; omega, by rw [sq_neg (Nat.le_of_lt hR)]; exact h1⟩, this, rr_1o hR hE k1 k2 k3 cP h1 hp⟩
  · rw [at2 R m h1] at c
    have hy : R * J % pp < pp := mod_pp _
    by_cases h2 : (R * J % pp) * (R * J % pp) % pp = m
    · rw [decide_eq_true h2] at c
      rcases (show (R * J % pp) % 2 = 0 ∨ (R * J % pp) % 2 = 1 by omega) with hp | hp
      · exact ⟨_, true, hy, fun _ => ⟨hp, h2⟩, root_ev hy (decide_eq_true hp) c, rr_2e hm hR hE k1 k2 k3 cP hJ cF k4 k5 cJ h1 h2 hp⟩
      · have := root_od hy (decide_eq_false (by omega)) c
        rw [odd_neg hy hp] at this
        exact ⟨pp - R * J % pp, true, by omega, fun _ => ⟨by have := pp_odd; omega, by rw [sq_neg (Nat.le_of_lt hy)]; exact h2⟩, this, rr_2o hm hR hE k1 k2 k3 cP hJ cF k4 k5 cJ h1 h2 hp⟩
    · rw [decide_eq_false h2] at c
      exact ⟨0, false, pp_pos, fun h => (by cases h), root_no c, rr_2n hm hR hE k1 k2 k3 cP hJ cF k4 k5 cJ h1 h2⟩
end Go.Proofs.Ytgiemldmphbolaa

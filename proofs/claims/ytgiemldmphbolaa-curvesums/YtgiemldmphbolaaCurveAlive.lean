/- The statements' fixed fact of the curve. -/
import Derived.Test.YtgiemldmphbolaaG7
namespace Go.Proofs.Ytgiemldmphbolaa
open Go.RowKit
def gB : Nat := 46316835694926478169428394003475163141307993866256225615783033603165251855959
theorem gB_lt : gB < pp := by decide +kernel
theorem gX_ev : gX % 2 = 0 := by decide +kernel
theorem gB_eq : sb (mu 4 (inv 5)) 1 = gB := by decide +kernel
theorem gen_g (W0 : World) : Calls Try.prog 21 #[] W0 fun e w' => e = .returned (.agg (ces [gX, gB])) ∧ Below W0.heap.size W0 w' := by
  have := gen_r W0
  rwa [gB_eq] at this
theorem gen_x : sx gX gB (sb 0 gX) gB = 0 := by decide +kernel
theorem gen_y : sb (sy gX gB (sb 0 gX) gB) 1 = 0 := by decide +kernel
theorem gen_m (W0 : World) : Calls Try.prog 16 #[.agg (ces [gX, gB]), .agg (ces [gX, gB])] W0 fun e w' => e = .returned (.agg (ces [0, 0])) ∧ Below W0.heap.size W0 w' := by
  have := minus_p gX_lt gB_lt gX_lt gB_lt W0
  rwa [gen_x, gen_y] at this
set_option maxHeartbeats 4000000 in
theorem alive_c (W0 : World) : Calls Try.prog 9 #[] W0 fun e w' => e = .returned (.bool true) ∧ Below W0.heap.size W0 w' := by
  refine sym_enter Try.func9 Try.ntmps9 rfl [uu, uu, uu, uu, uu, uu, uu, uu, uu, uu, uu, uu, uu, uu, uu, uu, uu, uu, uu, uu, uu, uu, uu, uu] (by kernel_rfl) (by kernel_rfl) ?_
  intro β a h
  refine sym_seq ?_
  refine St.region h [.inl (.bool false), uu, uu, uu, uu, uu, uu, uu, uu, uu, uu, uu, uu, uu, uu, uu, uu, uu, uu, uu, uu, uu, uu, uu] [] [] [] [nn] (by kernel_rfl) (by kernel_rfl) (by kernel_rfl) (by kernel_rfl) (by kernel_rfl) (by kernel_rfl) (by kernel_rfl) (by kernel_rfl) ?_ ?_
  · refine ok_cons (ok_mv (Or.inr rfl) (by kernel_rfl) rfl (by kernel_rfl) (by kernel_rfl)) ?_
    exact ok_nil
  clear h; intro β a w h
  refine sym_then ?_
  refine sym_seq ?_
  refine St.region h [.inl (.bool false), .inr (0, 0), .inl (.agg (ces [gX, gB])), .inl (.agg (ck (byt (dig (ad gB 1))))), uu, uu, uu, uu, uu, uu, uu, uu, uu, uu, uu, uu, uu, uu, uu, uu, uu, uu, uu, uu] [(ck (byt (dig (ad gB 1))), 23)] [(ck (fun _ => 0), 23)] [ck (byt (dig (ad gB 1)))] [nn, nn, ⟨some 0, none, none, false⟩, ⟨none, some 0, none, false⟩] (by kernel_rfl) (by kernel_rfl) (by kernel_rfl) (by kernel_rfl) (by kernel_rfl) (by kernel_rfl) (by kernel_rfl) (by kernel_rfl) ?_ ?_
  · refine ok_cons (ok_call (vs := #[]) (R := .agg (ces [gX, gB])) gen_g rfl (by kernel_rfl) rfl (by kernel_rfl) (by kernel_rfl) (by kernel_rfl) (fun w => by kernel_rfl)) ?_
    refine ok_cons (ok_call (vs := #[.agg (ces [gX, gB])]) (R := .agg (ck (byt (dig (ad gB 1))))) (fun w => pkey_e gX_lt gB_lt gX_ev w) rfl (by kernel_rfl) rfl (by kernel_rfl) (by kernel_rfl) (by kernel_rfl) (fun w => by kernel_rfl)) ?_
    refine ok_cons (ok_alloc (b := 0) alK rfl (by kernel_rfl) rfl (by kernel_rfl) (by kernel_rfl)) ?_
    refine ok_cons (ok_store (b := 0) (off := 0) (u := .agg (ck (byt (dig (ad gB 1))))) (c := ck (fun _ => 0)) (n := ck (byt (dig (ad gB 1)))) (stK (F := (byt (dig (ad gB 1)))) (c := ck (fun _ => 0)) 23 (ck_size _)) rfl (by kernel_rfl) rfl (by kernel_rfl) (by kernel_rfl) (by kernel_rfl) (by kernel_rfl) (by kernel_rfl)) ?_
    exact ok_nil
  clear h; intro β a w h
  refine sym_then ?_
  refine sym_seq ?_
  refine St.region h [.inl (.bool true), .inr (0, 0), .inl (.agg (ces [gX, gB])), .inl (.agg (ck (byt (dig (ad gB 1))))), .inr (0, 0), .inl (.int .u8 ((((byt (dig (ad gB 1))) 0) : Nat) : Int)), .inl (.bool true), .inl (.bool true), .inr (0, 1), .inl (.int .u8 ((((byt (dig (ad gB 1))) 1) : Nat) : Int)), .inl (.bool true), .inl (.bool true), .inl (.bool true), .inr (0, 31), .inl (.int .u8 ((((byt (dig (ad gB 1))) 31) : Nat) : Int)), .inl (.bool true), .inl (.bool true), .inl (.bool true), .inl (.agg (ces [gX, gB])), .inl (.agg (ces [gX, gB])), .inl (.agg (ces [0, 0])), .inl (.agg (ces [0, 0])), .inl (.bool true), .inl (.bool true)] [(ck (byt (dig (ad gB 1))), 23)] [(ck (byt (dig (ad gB 1))), 23)] [#[]] [nn, ⟨none, none, some 0, false⟩, nn, nn, nn, ⟨none, none, some 0, false⟩, nn, nn, nn, nn, ⟨none, none, some 0, false⟩, nn, nn, nn, nn, nn, nn, nn, nn, nn, nn] (by kernel_rfl) (by kernel_rfl) (by kernel_rfl) (by kernel_rfl) (by kernel_rfl) (by kernel_rfl) (by kernel_rfl) (by kernel_rfl) ?_ ?_
  · refine ok_cons (ok_iaddr (b := 0) (off := 0) (off' := 0) (u := .int .i64 ((0 : Nat) : Int)) (ixK (i := 0) (by omega)) rfl (by kernel_rfl) rfl (by kernel_rfl) (by kernel_rfl) (by kernel_rfl) (by kernel_rfl)) ?_
    refine ok_cons (ok_load (b := 0) (off := 0) (c := ck (byt (dig (ad gB 1)))) (v := .int .u8 ((((byt (dig (ad gB 1))) 0) : Nat) : Int)) (ld_k (F := (byt (dig (ad gB 1)))) (i := 0) (t0 := 23) (by omega)) rfl (by kernel_rfl) rfl (by kernel_rfl) (by kernel_rfl) (by kernel_rfl)) ?_
    refine ok_cons (ok_bin (x1 := .int .u8 ((((byt (dig (ad gB 1))) 0) : Nat) : Int)) (u1 := .int .u8 ((88 : Nat) : Int)) (v := .bool true) (eq_b (m := ((byt (dig (ad gB 1))) 0)) (n := 88) (by decide +kernel)) rfl (by kernel_rfl) rfl (by kernel_rfl) (by kernel_rfl) (by kernel_rfl) (by kernel_rfl) (by kernel_rfl)) ?_
    refine ok_cons (ok_mv (Or.inl rfl) (by kernel_rfl) rfl (by kernel_rfl) (by kernel_rfl)) ?_
    refine ok_cons (ok_iaddr (b := 0) (off := 0) (off' := 1) (u := .int .i64 ((1 : Nat) : Int)) (ixK (i := 1) (by omega)) rfl (by kernel_rfl) rfl (by kernel_rfl) (by kernel_rfl) (by kernel_rfl) (by kernel_rfl)) ?_
    refine ok_cons (ok_load (b := 0) (off := 1) (c := ck (byt (dig (ad gB 1)))) (v := .int .u8 ((((byt (dig (ad gB 1))) 1) : Nat) : Int)) (ld_k (F := (byt (dig (ad gB 1)))) (i := 1) (t0 := 23) (by omega)) rfl (by kernel_rfl) rfl (by kernel_rfl) (by kernel_rfl) (by kernel_rfl)) ?_
    refine ok_cons (ok_bin (x1 := .int .u8 ((((byt (dig (ad gB 1))) 1) : Nat) : Int)) (u1 := .int .u8 ((102 : Nat) : Int)) (v := .bool true) (eq_b (m := ((byt (dig (ad gB 1))) 1)) (n := 102) (by decide +kernel)) rfl (by kernel_rfl) rfl (by kernel_rfl) (by kernel_rfl) (by kernel_rfl) (by kernel_rfl) (by kernel_rfl)) ?_
    refine ok_cons (ok_pick_t rfl (by kernel_rfl) rfl (by kernel_rfl) (by kernel_rfl) (by kernel_rfl) (by kernel_rfl)) ?_
    refine ok_cons (ok_mv (Or.inl rfl) (by kernel_rfl) rfl (by kernel_rfl) (by kernel_rfl)) ?_
    refine ok_cons (ok_iaddr (b := 0) (off := 0) (off' := 31) (u := .int .i64 ((31 : Nat) : Int)) (ixK (i := 31) (by omega)) rfl (by kernel_rfl) rfl (by kernel_rfl) (by kernel_rfl) (by kernel_rfl) (by kernel_rfl)) ?_
    refine ok_cons (ok_load (b := 0) (off := 31) (c := ck (byt (dig (ad gB 1)))) (v := .int .u8 ((((byt (dig (ad gB 1))) 31) : Nat) : Int)) (ld_k (F := (byt (dig (ad gB 1)))) (i := 31) (t0 := 23) (by omega)) rfl (by kernel_rfl) rfl (by kernel_rfl) (by kernel_rfl) (by kernel_rfl)) ?_
    refine ok_cons (ok_bin (x1 := .int .u8 ((((byt (dig (ad gB 1))) 31) : Nat) : Int)) (u1 := .int .u8 ((102 : Nat) : Int)) (v := .bool true) (eq_b (m := ((byt (dig (ad gB 1))) 31)) (n := 102) (by decide +kernel)) rfl (by kernel_rfl) rfl (by kernel_rfl) (by kernel_rfl) (by kernel_rfl) (by kernel_rfl) (by kernel_rfl)) ?_
    refine ok_cons (ok_pick_t rfl (by kernel_rfl) rfl (by kernel_rfl) (by kernel_rfl) (by kernel_rfl) (by kernel_rfl)) ?_
    refine ok_cons (ok_mv (Or.inl rfl) (by kernel_rfl) rfl (by kernel_rfl) (by kernel_rfl)) ?_
    refine ok_cons (ok_call (vs := #[]) (R := .agg (ces [gX, gB])) gen_g rfl (by kernel_rfl) rfl (by kernel_rfl) (by kernel_rfl) (by kernel_rfl) (fun w => by kernel_rfl)) ?_
    refine ok_cons (ok_call (vs := #[]) (R := .agg (ces [gX, gB])) gen_g rfl (by kernel_rfl) rfl (by kernel_rfl) (by kernel_rfl) (by kernel_rfl) (fun w => by kernel_rfl)) ?_
    refine ok_cons (ok_call (vs := #[.agg (ces [gX, gB]), .agg (ces [gX, gB])]) (R := .agg (ces [0, 0])) gen_m rfl (by kernel_rfl) rfl (by kernel_rfl) (by kernel_rfl) (by kernel_rfl) (fun w => by kernel_rfl)) ?_
    refine ok_cons (ok_build (vs := #[]) (v := .agg (ces [0, 0])) bdP0 rfl (by kernel_rfl) rfl (by kernel_rfl) (by kernel_rfl) (by kernel_rfl)) ?_
    refine ok_cons (ok_call (vs := #[.agg (ces [0, 0]), .agg (ces [0, 0])]) (R := .bool true) (fun w => is_ptt zero_ltp zero_ltp rfl zero_ltp zero_ltp rfl w) rfl (by kernel_rfl) rfl (by kernel_rfl) (by kernel_rfl) (by kernel_rfl) (fun w => by kernel_rfl)) ?_
    refine ok_cons (ok_pick_t rfl (by kernel_rfl) rfl (by kernel_rfl) (by kernel_rfl) (by kernel_rfl) (by kernel_rfl)) ?_
    refine ok_cons (ok_mv (Or.inr rfl) (by kernel_rfl) rfl (by kernel_rfl) (by kernel_rfl)) ?_
    exact ok_nil
  clear h; intro β a w h
  refine sym_then ?_
  refine wp_ret ?_
  exact sym_ret h Try.results9 (by kernel_rfl) (by kernel_rfl) (fun hb => ⟨rfl, hb⟩)
end Go.Proofs.Ytgiemldmphbolaa

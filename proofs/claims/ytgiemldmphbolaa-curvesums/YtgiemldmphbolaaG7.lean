/- Crv4, laid together. -/
import Derived.Test.YtgiemldmphbolaaG6
namespace Go.Proofs.Ytgiemldmphbolaa
open Go.RowKit

set_option maxHeartbeats 4000000 in
theorem pkey_e {x b : Nat} (hx : x < pp) (hb : b < pp) (hev : x % 2 = 0) (W0 : World) : Calls Try.prog 12 #[.agg (ces [x, b])] W0 fun e w' => e = .returned (.agg (ck (byt (dig (ad b 1))))) ∧ Below W0.heap.size W0 w' := by

  refine sym_enter Try.func12 Try.ntmps12 rfl [.inl (.agg (ces [x, b])), uu, uu, uu, uu, uu, uu, uu, uu, uu, uu, uu, uu, uu, uu, uu] (by kernel_rfl) (by kernel_rfl) ?_
  intro β a h
  refine sym_seq ?_
  refine St.region h [.inl (.agg (ces [x, b])), .inr (0, 0), .inr (1, 0), uu, uu, uu, uu, uu, uu, uu, uu, uu, uu, uu, uu, uu] [(ces [x, b], 31), (ck (fun _ => 0), 23)] [(ces [x, b], 31), (ck (fun _ => 0), 23)] [#[], #[]] [⟨some 0, none, none, false⟩, ⟨some 1, none, none, false⟩] (by kernel_rfl) (by kernel_rfl) (by kernel_rfl) (by kernel_rfl) (by kernel_rfl) (by kernel_rfl) (by kernel_rfl) (by kernel_rfl) ?_ ?_
  · refine ok_cons (ok_box (b := 0) (u := .agg (ces [x, b])) (bxP (a := x) (b := b)) rfl (by kernel_rfl) rfl (by kernel_rfl) (by kernel_rfl) (by kernel_rfl) (by kernel_rfl)) ?_
    refine ok_cons (ok_alloc (b := 1) alK rfl (by kernel_rfl) rfl (by kernel_rfl) (by kernel_rfl)) ?_
    exact ok_nil
  clear h; intro β a w h
  refine sym_then ?_
  refine sym_seq ?_
  refine St.region h [.inl (.agg (ces [x, b])), .inr (0, 0), .inr (1, 0), .inr (2, 0), .inl (.agg (ces [x, b])), .inl (el (dig (ad b 1))), .inl (.agg (ck (byt (dig (ad b 1))))), uu, uu, uu, uu, uu, uu, uu, uu, uu] [(ces [x, b], 31), (ck (fun _ => 0), 23), (ck (byt (dig (ad b 1))), 23)] [(ces [x, b], 31), (ck (fun _ => 0), 23), (ck (fun _ => 0), 23)] [#[], #[], ck (byt (dig (ad b 1)))] [⟨none, none, some 0, false⟩, nn, nn, ⟨some 2, none, none, false⟩, ⟨none, some 2, none, false⟩] (by kernel_rfl) (by kernel_rfl) (by kernel_rfl) (by kernel_rfl) (by kernel_rfl) (by kernel_rfl) (by kernel_rfl) (by kernel_rfl) ?_ ?_
  · refine ok_cons (ok_load (b := 0) (off := 0) (c := ces [x, b]) (v := .agg (ces [x, b])) (ldP (a := x) (b := b) 31) rfl (by kernel_rfl) rfl (by kernel_rfl) (by kernel_rfl) (by kernel_rfl)) ?_
    refine ok_cons (ok_call (vs := #[.agg (ces [x, b])]) (R := el (dig (ad b 1))) (fun w => y_r hb w) rfl (by kernel_rfl) rfl (by kernel_rfl) (by kernel_rfl) (by kernel_rfl) (fun w => by kernel_rfl)) ?_
    refine ok_cons (ok_call (vs := #[el (dig (ad b 1))]) (R := .agg (ck (byt (dig (ad b 1))))) (fun w => key_d (ad_lt _ _) w) rfl (by kernel_rfl) rfl (by kernel_rfl) (by kernel_rfl) (by kernel_rfl) (fun w => by kernel_rfl)) ?_
    refine ok_cons (ok_alloc (b := 2) alK rfl (by kernel_rfl) rfl (by kernel_rfl) (by kernel_rfl)) ?_
    refine ok_cons (ok_store (b := 2) (off := 0) (u := .agg (ck (byt (dig (ad b 1))))) (c := ck (fun _ => 0)) (n := ck (byt (dig (ad b 1)))) (stK (F := (byt (dig (ad b 1)))) (c := ck (fun _ => 0)) 23 (ck_size _)) rfl (by kernel_rfl) rfl (by kernel_rfl) (by kernel_rfl) (by kernel_rfl) (by kernel_rfl) (by kernel_rfl)) ?_
    exact ok_nil
  clear h; intro β a w h
  refine sym_then ?_
  refine sym_seq ?_
  refine sym_seq ?_
  refine St.region h [.inl (.agg (ces [x, b])), .inr (0, 0), .inr (1, 0), .inr (2, 0), .inl (.agg (ces [x, b])), .inl (el (dig (ad b 1))), .inl (.agg (ck (byt (dig (ad b 1))))), .inr (0, 0), .inl (el (dig x)), .inl (.bool true), .inl (.bool false), uu, uu, uu, uu, uu] [(ces [x, b], 31), (ck (fun _ => 0), 23), (ck (byt (dig (ad b 1))), 23)] [(ces [x, b], 31), (ck (fun _ => 0), 23), (ck (byt (dig (ad b 1))), 23)] [#[], #[], #[]] [nn, ⟨none, none, some 0, false⟩, nn, nn] (by kernel_rfl) (by kernel_rfl) (by kernel_rfl) (by kernel_rfl) (by kernel_rfl) (by kernel_rfl) (by kernel_rfl) (by kernel_rfl) ?_ ?_
  · refine ok_cons (ok_faddr (b := 0) (off := 0) (off' := 0) (fun w q => by kernel_rfl) rfl (by kernel_rfl) rfl (by kernel_rfl) (by kernel_rfl)) ?_
    refine ok_cons (ok_load (b := 0) (off := 0) (c := ces [x, b]) (v := el (dig x)) (ld_ces (l := [x, b]) (k := 0) (n := x) 31 rfl) rfl (by kernel_rfl) rfl (by kernel_rfl) (by kernel_rfl) (by kernel_rfl)) ?_
    refine ok_cons (ok_call (vs := #[el (dig x)]) (R := .bool true) (fun w => even_b hx (decide_eq_true hev) w) rfl (by kernel_rfl) rfl (by kernel_rfl) (by kernel_rfl) (by kernel_rfl) (fun w => by kernel_rfl)) ?_
    refine ok_cons (ok_not (b := true) rfl (by kernel_rfl) rfl (by kernel_rfl) (by kernel_rfl) (by kernel_rfl)) ?_
    exact ok_nil
  clear h; intro β a w h
  refine sym_then ?_
  refine sym_cond_f h (by kernel_rfl) (by kernel_rfl) ?_
  refine wp_skip ?_
  refine sym_then ?_
  refine sym_seq ?_
  refine St.region h [.inl (.agg (ces [x, b])), .inr (0, 0), .inr (1, 0), .inr (2, 0), .inl (.agg (ces [x, b])), .inl (el (dig (ad b 1))), .inl (.agg (ck (byt (dig (ad b 1))))), .inr (0, 0), .inl (el (dig x)), .inl (.bool true), .inl (.bool false), uu, uu, uu, uu, .inl (.agg (ck (byt (dig (ad b 1)))))] [(ces [x, b], 31), (ck (byt (dig (ad b 1))), 23), (ck (byt (dig (ad b 1))), 23)] [(ces [x, b], 31), (ck (fun _ => 0), 23), (ck (byt (dig (ad b 1))), 23)] [#[], ck (byt (dig (ad b 1))), #[]] [⟨none, none, some 2, false⟩, ⟨none, some 1, none, false⟩] (by kernel_rfl) (by kernel_rfl) (by kernel_rfl) (by kernel_rfl) (by kernel_rfl) (by kernel_rfl) (by kernel_rfl) (by kernel_rfl) ?_ ?_
  · refine ok_cons (ok_load (b := 2) (off := 0) (c := ck (byt (dig (ad b 1)))) (v := .agg (ck (byt (dig (ad b 1))))) (ldK (b := (byt (dig (ad b 1)))) 23) rfl (by kernel_rfl) rfl (by kernel_rfl) (by kernel_rfl) (by kernel_rfl)) ?_
    refine ok_cons (ok_store (b := 1) (off := 0) (u := .agg (ck (byt (dig (ad b 1))))) (c := ck (fun _ => 0)) (n := ck (byt (dig (ad b 1)))) (stK (F := (byt (dig (ad b 1)))) (c := ck (fun _ => 0)) 23 (ck_size _)) rfl (by kernel_rfl) rfl (by kernel_rfl) (by kernel_rfl) (by kernel_rfl) (by kernel_rfl) (by kernel_rfl)) ?_
    exact ok_nil
  clear h; intro β a w h
  refine sym_then ?_
  refine wp_ret ?_
  exact sym_retc (b := 1) (t0 := 23) (c := ck (byt (dig (ad b 1)))) h Try.results12 (by kernel_rfl) (by kernel_rfl) (by kernel_rfl) Try.underlying23 rfl (by rw [ck_size]; kernel_rfl) (fun hb => ⟨rfl, hb⟩)

set_option maxHeartbeats 4000000 in
theorem pkey_o {x b : Nat} (hx : x < pp) (hb : b < pp) (hev : ¬ x % 2 = 0) (W0 : World) : Calls Try.prog 12 #[.agg (ces [x, b])] W0 fun e w' => e = .returned (.agg (ck (updN (byt (dig (ad b 1))) 31 (byt (dig (ad b 1)) 31 + 128)))) ∧ Below W0.heap.size W0 w' := by
  have g1 := byt_top (ad_lt b 1)
  refine sym_enter Try.func12 Try.ntmps12 rfl [.inl (.agg (ces [x, b])), uu, uu, uu, uu, uu, uu, uu, uu, uu, uu, uu, uu, uu, uu, uu] (by kernel_rfl) (by kernel_rfl) ?_
  intro β a h
  refine sym_seq ?_
  refine St.region h [.inl (.agg (ces [x, b])), .inr (0, 0), .inr (1, 0), uu, uu, uu, uu, uu, uu, uu, uu, uu, uu, uu, uu, uu] [(ces [x, b], 31), (ck (fun _ => 0), 23)] [(ces [x, b], 31), (ck (fun _ => 0), 23)] [#[], #[]] [⟨some 0, none, none, false⟩, ⟨some 1, none, none, false⟩] (by kernel_rfl) (by kernel_rfl) (by kernel_rfl) (by kernel_rfl) (by kernel_rfl) (by kernel_rfl) (by kernel_rfl) (by kernel_rfl) ?_ ?_
  · refine ok_cons (ok_box (b := 0) (u := .agg (ces [x, b])) (bxP (a := x) (b := b)) rfl (by kernel_rfl) rfl (by kernel_rfl) (by kernel_rfl) (by kernel_rfl) (by kernel_rfl)) ?_
    refine ok_cons (ok_alloc (b := 1) alK rfl (by kernel_rfl) rfl (by kernel_rfl) (by kernel_rfl)) ?_
    exact ok_nil
  clear h; intro β a w h
  refine sym_then ?_
  refine sym_seq ?_
  refine St.region h [.inl (.agg (ces [x, b])), .inr (0, 0), .inr (1, 0), .inr (2, 0), .inl (.agg (ces [x, b])), .inl (el (dig (ad b 1))), .inl (.agg (ck (byt (dig (ad b 1))))), uu, uu, uu, uu, uu, uu, uu, uu, uu] [(ces [x, b], 31), (ck (fun _ => 0), 23), (ck (byt (dig (ad b 1))), 23)] [(ces [x, b], 31), (ck (fun _ => 0), 23), (ck (fun _ => 0), 23)] [#[], #[], ck (byt (dig (ad b 1)))] [⟨none, none, some 0, false⟩, nn, nn, ⟨some 2, none, none, false⟩, ⟨none, some 2, none, false⟩] (by kernel_rfl) (by kernel_rfl) (by kernel_rfl) (by kernel_rfl) (by kernel_rfl) (by kernel_rfl) (by kernel_rfl) (by kernel_rfl) ?_ ?_
  · refine ok_cons (ok_load (b := 0) (off := 0) (c := ces [x, b]) (v := .agg (ces [x, b])) (ldP (a := x) (b := b) 31) rfl (by kernel_rfl) rfl (by kernel_rfl) (by kernel_rfl) (by kernel_rfl)) ?_
    refine ok_cons (ok_call (vs := #[.agg (ces [x, b])]) (R := el (dig (ad b 1))) (fun w => y_r hb w) rfl (by kernel_rfl) rfl (by kernel_rfl) (by kernel_rfl) (by kernel_rfl) (fun w => by kernel_rfl)) ?_
    refine ok_cons (ok_call (vs := #[el (dig (ad b 1))]) (R := .agg (ck (byt (dig (ad b 1))))) (fun w => key_d (ad_lt _ _) w) rfl (by kernel_rfl) rfl (by kernel_rfl) (by kernel_rfl) (by kernel_rfl) (fun w => by kernel_rfl)) ?_
    refine ok_cons (ok_alloc (b := 2) alK rfl (by kernel_rfl) rfl (by kernel_rfl) (by kernel_rfl)) ?_
    refine ok_cons (ok_store (b := 2) (off := 0) (u := .agg (ck (byt (dig (ad b 1))))) (c := ck (fun _ => 0)) (n := ck (byt (dig (ad b 1)))) (stK (F := (byt (dig (ad b 1)))) (c := ck (fun _ => 0)) 23 (ck_size _)) rfl (by kernel_rfl) rfl (by kernel_rfl) (by kernel_rfl) (by kernel_rfl) (by kernel_rfl) (by kernel_rfl)) ?_
    exact ok_nil
  clear h; intro β a w h
  refine sym_then ?_
  refine sym_seq ?_
  refine sym_seq ?_
  refine St.region h [.inl (.agg (ces [x, b])), .inr (0, 0), .inr (1, 0), .inr (2, 0), .inl (.agg (ces [x, b])), .inl (el (dig (ad b 1))), .inl (.agg (ck (byt (dig (ad b 1))))), .inr (0, 0), .inl (el (dig x)), .inl (.bool false), .inl (.bool true), uu, uu, uu, uu, uu] [(ces [x, b], 31), (ck (fun _ => 0), 23), (ck (byt (dig (ad b 1))), 23)] [(ces [x, b], 31), (ck (fun _ => 0), 23), (ck (byt (dig (ad b 1))), 23)] [#[], #[], #[]] [nn, ⟨none, none, some 0, false⟩, nn, nn] (by kernel_rfl) (by kernel_rfl) (by kernel_rfl) (by kernel_rfl) (by kernel_rfl) (by kernel_rfl) (by kernel_rfl) (by kernel_rfl) ?_ ?_
  · refine ok_cons (ok_faddr (b := 0) (off := 0) (off' := 0) (fun w q => by kernel_rfl) rfl (by kernel_rfl) rfl (by kernel_rfl) (by kernel_rfl)) ?_
    refine ok_cons (ok_load (b := 0) (off := 0) (c := ces [x, b]) (v := el (dig x)) (ld_ces (l := [x, b]) (k := 0) (n := x) 31 rfl) rfl (by kernel_rfl) rfl (by kernel_rfl) (by kernel_rfl) (by kernel_rfl)) ?_
    refine ok_cons (ok_call (vs := #[el (dig x)]) (R := .bool false) (fun w => even_b hx (decide_eq_false hev) w) rfl (by kernel_rfl) rfl (by kernel_rfl) (by kernel_rfl) (by kernel_rfl) (fun w => by kernel_rfl)) ?_
    refine ok_cons (ok_not (b := false) rfl (by kernel_rfl) rfl (by kernel_rfl) (by kernel_rfl) (by kernel_rfl)) ?_
    exact ok_nil
  clear h; intro β a w h
  refine sym_then ?_
  refine sym_cond_t h (by kernel_rfl) (by kernel_rfl) ?_
  refine St.region h [.inl (.agg (ces [x, b])), .inr (0, 0), .inr (1, 0), .inr (2, 0), .inl (.agg (ces [x, b])), .inl (el (dig (ad b 1))), .inl (.agg (ck (byt (dig (ad b 1))))), .inr (0, 0), .inl (el (dig x)), .inl (.bool false), .inl (.bool true), .inr (2, 31), .inl (.int .u8 ((((byt (dig (ad b 1))) 31) : Nat) : Int)), .inl (.int .u8 (((((byt (dig (ad b 1))) 31) + 128) : Nat) : Int)), .inr (2, 31), uu] [(ces [x, b], 31), (ck (fun _ => 0), 23), (ck (updN (byt (dig (ad b 1))) 31 (((byt (dig (ad b 1))) 31) + 128)), 23)] [(ces [x, b], 31), (ck (fun _ => 0), 23), (ck (byt (dig (ad b 1))), 23)] [#[], #[], ck (updN (byt (dig (ad b 1))) 31 (((byt (dig (ad b 1))) 31) + 128))] [nn, ⟨none, none, some 2, false⟩, nn, nn, ⟨none, some 2, none, false⟩] (by kernel_rfl) (by kernel_rfl) (by kernel_rfl) (by kernel_rfl) (by kernel_rfl) (by kernel_rfl) (by kernel_rfl) (by kernel_rfl) ?_ ?_
  · refine ok_cons (ok_iaddr (b := 2) (off := 0) (off' := 31) (u := .int .i64 ((31 : Nat) : Int)) (ixK (i := 31) (by omega)) rfl (by kernel_rfl) rfl (by kernel_rfl) (by kernel_rfl) (by kernel_rfl) (by kernel_rfl)) ?_
    refine ok_cons (ok_load (b := 2) (off := 31) (c := ck (byt (dig (ad b 1)))) (v := .int .u8 ((((byt (dig (ad b 1))) 31) : Nat) : Int)) (ld_k (F := (byt (dig (ad b 1)))) (i := 31) (t0 := 23) (by omega)) rfl (by kernel_rfl) rfl (by kernel_rfl) (by kernel_rfl) (by kernel_rfl)) ?_
    refine ok_cons (ok_bin (x1 := .int .u8 ((((byt (dig (ad b 1))) 31) : Nat) : Int)) (u1 := .int .u8 ((128 : Nat) : Int)) (v := .int .u8 (((((byt (dig (ad b 1))) 31) + 128) : Nat) : Int)) (or_b (m := ((byt (dig (ad b 1))) 31)) (by omega)) rfl (by kernel_rfl) rfl (by kernel_rfl) (by kernel_rfl) (by kernel_rfl) (by kernel_rfl) (by kernel_rfl)) ?_
    refine ok_cons (ok_iaddr (b := 2) (off := 0) (off' := 31) (u := .int .i64 ((31 : Nat) : Int)) (ixK (i := 31) (by omega)) rfl (by kernel_rfl) rfl (by kernel_rfl) (by kernel_rfl) (by kernel_rfl) (by kernel_rfl)) ?_
    refine ok_cons (ok_store (b := 2) (off := 31) (u := .int .u8 (((((byt (dig (ad b 1))) 31) + 128) : Nat) : Int)) (c := ck (byt (dig (ad b 1)))) (n := ck (updN (byt (dig (ad b 1))) 31 (((byt (dig (ad b 1))) 31) + 128))) (st_k (F := (byt (dig (ad b 1)))) (i := 31) (v := (((byt (dig (ad b 1))) 31) + 128)) (t0 := 23) (by omega)) rfl (by kernel_rfl) rfl (by kernel_rfl) (by kernel_rfl) (by kernel_rfl) (by kernel_rfl) (by kernel_rfl)) ?_
    exact ok_nil
  clear h; intro β a w h
  refine sym_then ?_
  refine sym_seq ?_
  refine St.region h [.inl (.agg (ces [x, b])), .inr (0, 0), .inr (1, 0), .inr (2, 0), .inl (.agg (ces [x, b])), .inl (el (dig (ad b 1))), .inl (.agg (ck (byt (dig (ad b 1))))), .inr (0, 0), .inl (el (dig x)), .inl (.bool false), .inl (.bool true), .inr (2, 31), .inl (.int .u8 ((((byt (dig (ad b 1))) 31) : Nat) : Int)), .inl (.int .u8 (((((byt (dig (ad b 1))) 31) + 128) : Nat) : Int)), .inr (2, 31), .inl (.agg (ck (updN (byt (dig (ad b 1))) 31 (((byt (dig (ad b 1))) 31) + 128))))] [(ces [x, b], 31), (ck (updN (byt (dig (ad b 1))) 31 (((byt (dig (ad b 1))) 31) + 128)), 23), (ck (updN (byt (dig (ad b 1))) 31 (((byt (dig (ad b 1))) 31) + 128)), 23)] [(ces [x, b], 31), (ck (fun _ => 0), 23), (ck (updN (byt (dig (ad b 1))) 31 (((byt (dig (ad b 1))) 31) + 128)), 23)] [#[], ck (updN (byt (dig (ad b 1))) 31 (((byt (dig (ad b 1))) 31) + 128)), #[]] [⟨none, none, some 2, false⟩, ⟨none, some 1, none, false⟩] (by kernel_rfl) (by kernel_rfl) (by kernel_rfl) (by kernel_rfl) (by kernel_rfl) (by kernel_rfl) (by kernel_rfl) (by kernel_rfl) ?_ ?_
  · refine ok_cons (ok_load (b := 2) (off := 0) (c := ck (updN (byt (dig (ad b 1))) 31 (((byt (dig (ad b 1))) 31) + 128))) (v := .agg (ck (updN (byt (dig (ad b 1))) 31 (((byt (dig (ad b 1))) 31) + 128)))) (ldK (b := (updN (byt (dig (ad b 1))) 31 (((byt (dig (ad b 1))) 31) + 128))) 23) rfl (by kernel_rfl) rfl (by kernel_rfl) (by kernel_rfl) (by kernel_rfl)) ?_
    refine ok_cons (ok_store (b := 1) (off := 0) (u := .agg (ck (updN (byt (dig (ad b 1))) 31 (((byt (dig (ad b 1))) 31) + 128)))) (c := ck (fun _ => 0)) (n := ck (updN (byt (dig (ad b 1))) 31 (((byt (dig (ad b 1))) 31) + 128))) (stK (F := (updN (byt (dig (ad b 1))) 31 (((byt (dig (ad b 1))) 31) + 128))) (c := ck (fun _ => 0)) 23 (ck_size _)) rfl (by kernel_rfl) rfl (by kernel_rfl) (by kernel_rfl) (by kernel_rfl) (by kernel_rfl) (by kernel_rfl)) ?_
    exact ok_nil
  clear h; intro β a w h
  refine sym_then ?_
  refine wp_ret ?_
  exact sym_retc (b := 1) (t0 := 23) (c := ck (updN (byt (dig (ad b 1))) 31 (((byt (dig (ad b 1))) 31) + 128))) h Try.results12 (by kernel_rfl) (by kernel_rfl) (by kernel_rfl) Try.underlying23 rfl (by rw [ck_size]; kernel_rfl) (fun hb => ⟨rfl, hb⟩)

set_option maxHeartbeats 4000000 in
theorem evenX_r {y r : Nat} {k : Bool} (hy : y < pp) (cR : ∀ w, Calls Try.prog 63 #[el (dig (mu (sb (mu y y) 1) (inv (ad (mu dN (mu y y)) 1))))] w fun e w' => e = .returned (.tuple #[el (dig r), .bool k]) ∧ Below w.heap.size w w') (W0 : World) : Calls Try.prog 30 #[el (dig y)] W0 fun e w' => e = .returned (.tuple #[el (dig r), .bool k]) ∧ Below W0.heap.size W0 w' := by
  refine sym_enter Try.func30 Try.ntmps30 rfl [.inl (el (dig y)), uu, uu, uu, uu, uu, uu, uu, uu, uu, uu, uu, uu, uu, uu, uu, uu, uu, uu, uu, uu, uu] (by kernel_rfl) (by kernel_rfl) ?_
  intro β a h
  refine sym_seq ?_
  refine St.region h [.inl (el (dig y)), .inr (0, 0), .inr (1, 0), .inl (.bool false), uu, uu, uu, uu, uu, uu, uu, uu, uu, uu, uu, uu, uu, uu, uu, uu, uu, uu] [(ce y, 29), (ce 0, 29)] [(ce y, 29), (ce 0, 29)] [#[], #[]] [⟨some 0, none, none, false⟩, ⟨some 1, none, none, false⟩, nn] (by kernel_rfl) (by kernel_rfl) (by kernel_rfl) (by kernel_rfl) (by kernel_rfl) (by kernel_rfl) (by kernel_rfl) (by kernel_rfl) ?_ ?_
  · refine ok_cons (ok_box (b := 0) (u := el (dig y)) (bxE (n := y)) rfl (by kernel_rfl) rfl (by kernel_rfl) (by kernel_rfl) (by kernel_rfl) (by kernel_rfl)) ?_
    refine ok_cons (ok_alloc (b := 1) alE rfl (by kernel_rfl) rfl (by kernel_rfl) (by kernel_rfl)) ?_
    refine ok_cons (ok_mv (Or.inr rfl) (by kernel_rfl) rfl (by kernel_rfl) (by kernel_rfl)) ?_
    exact ok_nil
  clear h; intro β a w h
  refine sym_then ?_
  refine sym_seq ?_
  refine St.region h [.inl (el (dig y)), .inr (0, 0), .inr (1, 0), .inl (.bool false), .inr (2, 0), uu, .inl (el (dig 1)), uu, uu, uu, uu, uu, uu, uu, uu, uu, uu, uu, uu, uu, uu, uu] [(ce y, 29), (ce 0, 29), (ce 1, 29)] [(ce y, 29), (ce 0, 29), (ce 0, 29)] [#[], #[], ce 1] [nn, ⟨some 2, none, none, false⟩, ⟨none, some 2, none, false⟩] (by kernel_rfl) (by kernel_rfl) (by kernel_rfl) (by kernel_rfl) (by kernel_rfl) (by kernel_rfl) (by kernel_rfl) (by kernel_rfl) ?_ ?_
  · refine ok_cons (ok_call (vs := #[.int .i64 ((1 : Nat) : Int)]) (R := el (dig 1)) (fun w => int_m (m := 1) (by decide) w) rfl (by kernel_rfl) rfl (by kernel_rfl) (by kernel_rfl) (by kernel_rfl) (fun w => by kernel_rfl)) ?_
    refine ok_cons (ok_alloc (b := 2) alE rfl (by kernel_rfl) rfl (by kernel_rfl) (by kernel_rfl)) ?_
    refine ok_cons (ok_store (b := 2) (off := 0) (u := el (dig 1)) (c := ce 0) (n := ce 1) (stE (n := 1) (c := ce 0) 29 (ce_size _)) rfl (by kernel_rfl) rfl (by kernel_rfl) (by kernel_rfl) (by kernel_rfl) (by kernel_rfl) (by kernel_rfl)) ?_
    exact ok_nil
  clear h; intro β a w h
  refine sym_then ?_
  refine sym_seq ?_
  refine St.region h [.inl (el (dig y)), .inr (0, 0), .inr (1, 0), .inl (.bool false), .inr (2, 0), .inr (3, 0), .inl (el (dig 1)), .inl (el (dig y)), .inl (el (dig y)), .inl (el (dig (mu y y))), uu, uu, uu, uu, uu, uu, uu, uu, uu, uu, uu, uu] [(ce y, 29), (ce 0, 29), (ce 1, 29), (ce (mu y y), 29)] [(ce y, 29), (ce 0, 29), (ce 1, 29), (ce 0, 29)] [#[], #[], #[], ce (mu y y)] [⟨none, none, some 0, false⟩, ⟨none, none, some 0, false⟩, nn, ⟨some 3, none, none, false⟩, ⟨none, some 3, none, false⟩] (by kernel_rfl) (by kernel_rfl) (by kernel_rfl) (by kernel_rfl) (by kernel_rfl) (by kernel_rfl) (by kernel_rfl) (by kernel_rfl) ?_ ?_
  · refine ok_cons (ok_load (b := 0) (off := 0) (c := ce y) (v := el (dig y)) (ldE (n := y) 29) rfl (by kernel_rfl) rfl (by kernel_rfl) (by kernel_rfl) (by kernel_rfl)) ?_
    refine ok_cons (ok_load (b := 0) (off := 0) (c := ce y) (v := el (dig y)) (ldE (n := y) 29) rfl (by kernel_rfl) rfl (by kernel_rfl) (by kernel_rfl) (by kernel_rfl)) ?_
    refine ok_cons (ok_call (vs := #[el (dig y), el (dig y)]) (R := el (dig (mu y y))) (fun w => times_m hy hy w) rfl (by kernel_rfl) rfl (by kernel_rfl) (by kernel_rfl) (by kernel_rfl) (fun w => by kernel_rfl)) ?_
    refine ok_cons (ok_alloc (b := 3) alE rfl (by kernel_rfl) rfl (by kernel_rfl) (by kernel_rfl)) ?_
    refine ok_cons (ok_store (b := 3) (off := 0) (u := el (dig (mu y y))) (c := ce 0) (n := ce (mu y y)) (stE (n := (mu y y)) (c := ce 0) 29 (ce_size _)) rfl (by kernel_rfl) rfl (by kernel_rfl) (by kernel_rfl) (by kernel_rfl) (by kernel_rfl) (by kernel_rfl)) ?_
    exact ok_nil
  clear h; intro β a w h
  refine sym_then ?_
  refine sym_seq ?_
  refine St.region h [.inl (el (dig y)), .inr (0, 0), .inr (1, 0), .inl (.bool k), .inr (2, 0), .inr (3, 0), .inl (el (dig 1)), .inl (el (dig y)), .inl (el (dig y)), .inl (el (dig (mu y y))), .inl (el (dig (mu y y))), .inl (el (dig 1)), .inl (el (dig (sb (mu y y) 1))), .inl (el (dig dN)), .inl (el (dig (mu y y))), .inl (el (dig (mu dN (mu y y)))), .inl (el (dig 1)), .inl (el (dig (ad (mu dN (mu y y)) 1))), .inl (el (dig (mu (sb (mu y y) 1) (inv (ad (mu dN (mu y y)) 1))))), .inl (.tuple #[el (dig r), .bool k]), .inl (el (dig r)), .inl (.bool k)] [(ce y, 29), (ce r, 29), (ce 1, 29), (ce (mu y y), 29)] [(ce y, 29), (ce 0, 29), (ce 1, 29), (ce (mu y y), 29)] [#[], ce r, #[], #[]] [⟨none, none, some 3, false⟩, ⟨none, none, some 2, false⟩, nn, nn, ⟨none, none, some 3, false⟩, nn, ⟨none, none, some 2, false⟩, nn, nn, nn, nn, nn, ⟨none, some 1, none, false⟩, nn] (by kernel_rfl) (by kernel_rfl) (by kernel_rfl) (by kernel_rfl) (by kernel_rfl) (by kernel_rfl) (by kernel_rfl) (by kernel_rfl) ?_ ?_
  · refine ok_cons (ok_load (b := 3) (off := 0) (c := ce (mu y y)) (v := el (dig (mu y y))) (ldE (n := (mu y y)) 29) rfl (by kernel_rfl) rfl (by kernel_rfl) (by kernel_rfl) (by kernel_rfl)) ?_
    refine ok_cons (ok_load (b := 2) (off := 0) (c := ce 1) (v := el (dig 1)) (ldE (n := 1) 29) rfl (by kernel_rfl) rfl (by kernel_rfl) (by kernel_rfl) (by kernel_rfl)) ?_
    refine ok_cons (ok_call (vs := #[el (dig (mu y y)), el (dig 1)]) (R := el (dig (sb (mu y y) 1))) (fun w => minus_m (mu_lt _ _) one_ltp w) rfl (by kernel_rfl) rfl (by kernel_rfl) (by kernel_rfl) (by kernel_rfl) (fun w => by kernel_rfl)) ?_
    refine ok_cons (ok_call (vs := #[]) (R := el (dig dN)) cnum_r rfl (by kernel_rfl) rfl (by kernel_rfl) (by kernel_rfl) (by kernel_rfl) (fun w => by kernel_rfl)) ?_
    refine ok_cons (ok_load (b := 3) (off := 0) (c := ce (mu y y)) (v := el (dig (mu y y))) (ldE (n := (mu y y)) 29) rfl (by kernel_rfl) rfl (by kernel_rfl) (by kernel_rfl) (by kernel_rfl)) ?_
    refine ok_cons (ok_call (vs := #[el (dig dN), el (dig (mu y y))]) (R := el (dig (mu dN (mu y y)))) (fun w => times_m dN_lt (mu_lt _ _) w) rfl (by kernel_rfl) rfl (by kernel_rfl) (by kernel_rfl) (by kernel_rfl) (fun w => by kernel_rfl)) ?_
    refine ok_cons (ok_load (b := 2) (off := 0) (c := ce 1) (v := el (dig 1)) (ldE (n := 1) 29) rfl (by kernel_rfl) rfl (by kernel_rfl) (by kernel_rfl) (by kernel_rfl)) ?_
    refine ok_cons (ok_call (vs := #[el (dig (mu dN (mu y y))), el (dig 1)]) (R := el (dig (ad (mu dN (mu y y)) 1))) (fun w => plus_m (mu_lt _ _) one_ltp w) rfl (by kernel_rfl) rfl (by kernel_rfl) (by kernel_rfl) (by kernel_rfl) (fun w => by kernel_rfl)) ?_
    refine ok_cons (ok_call (vs := #[el (dig (sb (mu y y) 1)), el (dig (ad (mu dN (mu y y)) 1))]) (R := el (dig (mu (sb (mu y y) 1) (inv (ad (mu dN (mu y y)) 1))))) (fun w => over_m (sb_lt _ _) (ad_lt _ _) w) rfl (by kernel_rfl) rfl (by kernel_rfl) (by kernel_rfl) (by kernel_rfl) (fun w => by kernel_rfl)) ?_
    refine ok_cons (ok_call (vs := #[el (dig (mu (sb (mu y y) 1) (inv (ad (mu dN (mu y y)) 1))))]) (R := .tuple #[el (dig r), .bool k]) cR rfl (by kernel_rfl) rfl (by kernel_rfl) (by kernel_rfl) (by kernel_rfl) (fun w => by kernel_rfl)) ?_
    refine ok_cons (ok_ext (x1 := .tuple #[el (dig r), .bool k]) (v := el (dig r)) (fun w => by kernel_rfl) rfl (by kernel_rfl) rfl (by kernel_rfl) (by kernel_rfl) (by kernel_rfl)) ?_
    refine ok_cons (ok_ext (x1 := .tuple #[el (dig r), .bool k]) (v := .bool k) (fun w => by kernel_rfl) rfl (by kernel_rfl) rfl (by kernel_rfl) (by kernel_rfl) (by kernel_rfl)) ?_
    refine ok_cons (ok_store (b := 1) (off := 0) (u := el (dig r)) (c := ce 0) (n := ce r) (stE (n := r) (c := ce 0) 29 (ce_size _)) rfl (by kernel_rfl) rfl (by kernel_rfl) (by kernel_rfl) (by kernel_rfl) (by kernel_rfl) (by kernel_rfl)) ?_
    refine ok_cons (ok_mv (Or.inr rfl) (by kernel_rfl) rfl (by kernel_rfl) (by kernel_rfl)) ?_
    exact ok_nil
  clear h; intro β a w h
  refine sym_then ?_
  refine wp_ret ?_
  exact sym_ret2 (b := 1) (t0 := 29) (c := ce r) h Try.results30 (by kernel_rfl) (by kernel_rfl) (by kernel_rfl) (by kernel_rfl) (by kernel_rfl) Try.underlying29 rfl (by kernel_rfl) (fun hb => ⟨rfl, hb⟩)

set_option maxHeartbeats 4000000 in
theorem of_no {b : Nat → Nat} (hb : ∀ i, b i < 256) {y : Nat} (hy : y < pp) (cO : ∀ w, Calls Try.prog 28 #[.agg (ck (updN b 31 (b 31 % 128)))] w fun e w' => e = .returned (el (dig y)) ∧ Below w.heap.size w w') (hkey : ¬ ∀ i, i < 32 → byt (dig y) i = (updN b 31 (b 31 % 128)) i) (hod : 128 ≤ b 31) (W0 : World) : Calls Try.prog 10 #[.agg (ck b)] W0 fun e w' => e = .returned (.tuple #[.agg (ces [0, 0]), .bool false]) ∧ Below W0.heap.size W0 w' := by
  have g1 := hb 31
  refine sym_enter Try.func10 Try.ntmps10 rfl [.inl (.agg (ck b)), uu, uu, uu, uu, uu, uu, uu, uu, uu, uu, uu, uu, uu, uu, uu, uu, uu, uu, uu, uu, uu, uu, uu, uu, uu, uu, uu, uu, uu, uu, uu, uu, uu, uu, uu, uu, uu, uu, uu, uu, uu, uu, uu, uu, uu] (by kernel_rfl) (by kernel_rfl) ?_
  intro β a h
  refine sym_seq ?_
  refine St.region h [.inl (.agg (ck b)), .inr (0, 0), .inr (1, 0), .inl (.bool false), uu, uu, uu, uu, uu, uu, uu, uu, uu, uu, uu, uu, uu, uu, uu, uu, uu, uu, uu, uu, uu, uu, uu, uu, uu, uu, uu, uu, uu, uu, uu, uu, uu, uu, uu, uu, uu, uu, uu, uu, uu, uu] [(ck b, 23), (ces [0, 0], 31)] [(ck b, 23), (ces [0, 0], 31)] [#[], #[]] [⟨some 0, none, none, false⟩, ⟨some 1, none, none, false⟩, nn] (by kernel_rfl) (by kernel_rfl) (by kernel_rfl) (by kernel_rfl) (by kernel_rfl) (by kernel_rfl) (by kernel_rfl) (by kernel_rfl) ?_ ?_
  · refine ok_cons (ok_box (b := 0) (u := .agg (ck b)) (bxK (b := b)) rfl (by kernel_rfl) rfl (by kernel_rfl) (by kernel_rfl) (by kernel_rfl) (by kernel_rfl)) ?_
    refine ok_cons (ok_alloc (b := 1) alP rfl (by kernel_rfl) rfl (by kernel_rfl) (by kernel_rfl)) ?_
    refine ok_cons (ok_mv (Or.inr rfl) (by kernel_rfl) rfl (by kernel_rfl) (by kernel_rfl)) ?_
    exact ok_nil
  clear h; intro β a w h
  refine sym_then ?_
  refine sym_seq ?_
  refine St.region h [.inl (.agg (ck b)), .inr (0, 0), .inr (1, 0), .inl (.bool false), .inl (.bool true), uu, uu, uu, .inr (0, 31), .inl (.int .u8 (((b 31) : Nat) : Int)), .inl (.int .u8 ((((b 31) / 128 * 128) : Nat) : Int)), .inl (.bool true), uu, uu, uu, uu, uu, uu, uu, uu, uu, uu, uu, uu, uu, uu, uu, uu, uu, uu, uu, uu, uu, uu, uu, uu, uu, uu, uu, uu, uu, uu, uu, uu, uu, uu] [(ck b, 23), (ces [0, 0], 31)] [(ck b, 23), (ces [0, 0], 31)] [#[], #[]] [nn, ⟨none, none, some 0, false⟩, nn, nn, nn] (by kernel_rfl) (by kernel_rfl) (by kernel_rfl) (by kernel_rfl) (by kernel_rfl) (by kernel_rfl) (by kernel_rfl) (by kernel_rfl) ?_ ?_
  · refine ok_cons (ok_iaddr (b := 0) (off := 0) (off' := 31) (u := .int .i64 ((31 : Nat) : Int)) (ixK (i := 31) (by omega)) rfl (by kernel_rfl) rfl (by kernel_rfl) (by kernel_rfl) (by kernel_rfl) (by kernel_rfl)) ?_
    refine ok_cons (ok_load (b := 0) (off := 31) (c := ck b) (v := .int .u8 (((b 31) : Nat) : Int)) (ld_k (F := b) (i := 31) (t0 := 23) (by omega)) rfl (by kernel_rfl) rfl (by kernel_rfl) (by kernel_rfl) (by kernel_rfl)) ?_
    refine ok_cons (ok_bin (x1 := .int .u8 (((b 31) : Nat) : Int)) (u1 := .int .u8 ((128 : Nat) : Int)) (v := .int .u8 ((((b 31) / 128 * 128) : Nat) : Int)) (and_b (m := (b 31)) (by omega)) rfl (by kernel_rfl) rfl (by kernel_rfl) (by kernel_rfl) (by kernel_rfl) (by kernel_rfl) (by kernel_rfl)) ?_
    refine ok_cons (ok_bin (x1 := .int .u8 ((((b 31) / 128 * 128) : Nat) : Int)) (u1 := .int .u8 ((0 : Nat) : Int)) (v := .bool true) (ne_b (m := ((b 31) / 128 * 128)) (n := 0) (decide_eq_true (by omega))) rfl (by kernel_rfl) rfl (by kernel_rfl) (by kernel_rfl) (by kernel_rfl) (by kernel_rfl) (by kernel_rfl)) ?_
    refine ok_cons (ok_mv (Or.inr rfl) (by kernel_rfl) rfl (by kernel_rfl) (by kernel_rfl)) ?_
    exact ok_nil
  clear h; intro β a w h
  refine sym_then ?_
  refine sym_seq ?_
  refine St.region h [.inl (.agg (ck b)), .inr (0, 0), .inr (1, 0), .inl (.bool false), .inl (.bool true), uu, uu, uu, .inr (0, 31), .inl (.int .u8 (((b 31) : Nat) : Int)), .inl (.int .u8 ((((b 31) / 128 * 128) : Nat) : Int)), .inl (.bool true), .inr (0, 31), .inl (.int .u8 (((b 31) : Nat) : Int)), .inl (.int .u8 ((((b 31) % 128) : Nat) : Int)), .inr (0, 31), uu, uu, uu, uu, uu, uu, uu, uu, uu, uu, uu, uu, uu, uu, uu, uu, uu, uu, uu, uu, uu, uu, uu, uu, uu, uu, uu, uu, uu, uu] [(ck (updN b 31 ((b 31) % 128)), 23), (ces [0, 0], 31)] [(ck b, 23), (ces [0, 0], 31)] [ck (updN b 31 ((b 31) % 128)), #[]] [nn, ⟨none, none, some 0, false⟩, nn, nn, ⟨none, some 0, none, false⟩] (by kernel_rfl) (by kernel_rfl) (by kernel_rfl) (by kernel_rfl) (by kernel_rfl) (by kernel_rfl) (by kernel_rfl) (by kernel_rfl) ?_ ?_
  · refine ok_cons (ok_iaddr (b := 0) (off := 0) (off' := 31) (u := .int .i64 ((31 : Nat) : Int)) (ixK (i := 31) (by omega)) rfl (by kernel_rfl) rfl (by kernel_rfl) (by kernel_rfl) (by kernel_rfl) (by kernel_rfl)) ?_
    refine ok_cons (ok_load (b := 0) (off := 31) (c := ck b) (v := .int .u8 (((b 31) : Nat) : Int)) (ld_k (F := b) (i := 31) (t0 := 23) (by omega)) rfl (by kernel_rfl) rfl (by kernel_rfl) (by kernel_rfl) (by kernel_rfl)) ?_
    refine ok_cons (ok_bin (x1 := .int .u8 (((b 31) : Nat) : Int)) (u1 := .int .u8 ((128 : Nat) : Int)) (v := .int .u8 ((((b 31) % 128) : Nat) : Int)) (an_b (m := (b 31)) (by omega)) rfl (by kernel_rfl) rfl (by kernel_rfl) (by kernel_rfl) (by kernel_rfl) (by kernel_rfl) (by kernel_rfl)) ?_
    refine ok_cons (ok_iaddr (b := 0) (off := 0) (off' := 31) (u := .int .i64 ((31 : Nat) : Int)) (ixK (i := 31) (by omega)) rfl (by kernel_rfl) rfl (by kernel_rfl) (by kernel_rfl) (by kernel_rfl) (by kernel_rfl)) ?_
    refine ok_cons (ok_store (b := 0) (off := 31) (u := .int .u8 ((((b 31) % 128) : Nat) : Int)) (c := ck b) (n := ck (updN b 31 ((b 31) % 128))) (st_k (F := b) (i := 31) (v := ((b 31) % 128)) (t0 := 23) (by omega)) rfl (by kernel_rfl) rfl (by kernel_rfl) (by kernel_rfl) (by kernel_rfl) (by kernel_rfl) (by kernel_rfl)) ?_
    exact ok_nil
  clear h; intro β a w h
  refine sym_then ?_
  refine sym_seq ?_
  refine St.region h [.inl (.agg (ck b)), .inr (0, 0), .inr (1, 0), .inl (.bool false), .inl (.bool true), .inr (2, 0), uu, uu, .inr (0, 31), .inl (.int .u8 (((b 31) : Nat) : Int)), .inl (.int .u8 ((((b 31) / 128 * 128) : Nat) : Int)), .inl (.bool true), .inr (0, 31), .inl (.int .u8 (((b 31) : Nat) : Int)), .inl (.int .u8 ((((b 31) % 128) : Nat) : Int)), .inr (0, 31), .inl (.agg (ck (updN b 31 ((b 31) % 128)))), .inl (el (dig y)), uu, uu, uu, uu, uu, uu, uu, uu, uu, uu, uu, uu, uu, uu, uu, uu, uu, uu, uu, uu, uu, uu, uu, uu, uu, uu, uu, uu] [(ck (updN b 31 ((b 31) % 128)), 23), (ces [0, 0], 31), (ce y, 29)] [(ck (updN b 31 ((b 31) % 128)), 23), (ces [0, 0], 31), (ce 0, 29)] [#[], #[], ce y] [⟨none, none, some 0, false⟩, nn, ⟨some 2, none, none, false⟩, ⟨none, some 2, none, false⟩] (by kernel_rfl) (by kernel_rfl) (by kernel_rfl) (by kernel_rfl) (by kernel_rfl) (by kernel_rfl) (by kernel_rfl) (by kernel_rfl) ?_ ?_
  · refine ok_cons (ok_load (b := 0) (off := 0) (c := ck (updN b 31 ((b 31) % 128))) (v := .agg (ck (updN b 31 ((b 31) % 128)))) (ldK (b := (updN b 31 ((b 31) % 128))) 23) rfl (by kernel_rfl) rfl (by kernel_rfl) (by kernel_rfl) (by kernel_rfl)) ?_
    refine ok_cons (ok_call (vs := #[.agg (ck (updN b 31 ((b 31) % 128)))]) (R := el (dig y)) cO rfl (by kernel_rfl) rfl (by kernel_rfl) (by kernel_rfl) (by kernel_rfl) (fun w => by kernel_rfl)) ?_
    refine ok_cons (ok_alloc (b := 2) alE rfl (by kernel_rfl) rfl (by kernel_rfl) (by kernel_rfl)) ?_
    refine ok_cons (ok_store (b := 2) (off := 0) (u := el (dig y)) (c := ce 0) (n := ce y) (stE (n := y) (c := ce 0) 29 (ce_size _)) rfl (by kernel_rfl) rfl (by kernel_rfl) (by kernel_rfl) (by kernel_rfl) (by kernel_rfl) (by kernel_rfl)) ?_
    exact ok_nil
  clear h; intro β a w h
  refine sym_then ?_
  refine sym_seq ?_
  refine sym_seq ?_
  refine St.region h [.inl (.agg (ck b)), .inr (0, 0), .inr (1, 0), .inl (.bool false), .inl (.bool true), .inr (2, 0), uu, uu, .inr (0, 31), .inl (.int .u8 (((b 31) : Nat) : Int)), .inl (.int .u8 ((((b 31) / 128 * 128) : Nat) : Int)), .inl (.bool true), .inr (0, 31), .inl (.int .u8 (((b 31) : Nat) : Int)), .inl (.int .u8 ((((b 31) % 128) : Nat) : Int)), .inr (0, 31), .inl (.agg (ck (updN b 31 ((b 31) % 128)))), .inl (el (dig y)), .inl (el (dig y)), .inl (.agg (ck (byt (dig y)))), .inl (.agg (ck (updN b 31 ((b 31) % 128)))), .inl (.bool true), uu, uu, uu, uu, uu, uu, uu, uu, uu, uu, uu, uu, uu, uu, uu, uu, uu, uu, uu, uu, uu, uu, uu, uu] [(ck (updN b 31 ((b 31) % 128)), 23), (ces [0, 0], 31), (ce y, 29)] [(ck (updN b 31 ((b 31) % 128)), 23), (ces [0, 0], 31), (ce y, 29)] [#[], #[], #[]] [⟨none, none, some 2, false⟩, nn, ⟨none, none, some 0, false⟩, nn] (by kernel_rfl) (by kernel_rfl) (by kernel_rfl) (by kernel_rfl) (by kernel_rfl) (by kernel_rfl) (by kernel_rfl) (by kernel_rfl) ?_ ?_
  · refine ok_cons (ok_load (b := 2) (off := 0) (c := ce y) (v := el (dig y)) (ldE (n := y) 29) rfl (by kernel_rfl) rfl (by kernel_rfl) (by kernel_rfl) (by kernel_rfl)) ?_
    refine ok_cons (ok_call (vs := #[el (dig y)]) (R := .agg (ck (byt (dig y)))) (fun w => key_d hy w) rfl (by kernel_rfl) rfl (by kernel_rfl) (by kernel_rfl) (by kernel_rfl) (fun w => by kernel_rfl)) ?_
    refine ok_cons (ok_load (b := 0) (off := 0) (c := ck (updN b 31 ((b 31) % 128))) (v := .agg (ck (updN b 31 ((b 31) % 128)))) (ldK (b := (updN b 31 ((b 31) % 128))) 23) rfl (by kernel_rfl) rfl (by kernel_rfl) (by kernel_rfl) (by kernel_rfl)) ?_
    refine ok_cons (ok_bin (x1 := .agg (ck (byt (dig y)))) (u1 := .agg (ck (updN b 31 ((b 31) % 128)))) (v := .bool true) (neK_t (F := (byt (dig y))) (G := (updN b 31 ((b 31) % 128))) hkey) rfl (by kernel_rfl) rfl (by kernel_rfl) (by kernel_rfl) (by kernel_rfl) (by kernel_rfl) (by kernel_rfl)) ?_
    exact ok_nil
  clear h; intro β a w h
  refine sym_then ?_
  refine sym_cond_t h (by kernel_rfl) (by kernel_rfl) ?_
  refine sym_seq ?_
  refine St.region h [.inl (.agg (ck b)), .inr (0, 0), .inr (1, 0), .inl (.bool false), .inl (.bool true), .inr (2, 0), uu, uu, .inr (0, 31), .inl (.int .u8 (((b 31) : Nat) : Int)), .inl (.int .u8 ((((b 31) / 128 * 128) : Nat) : Int)), .inl (.bool true), .inr (0, 31), .inl (.int .u8 (((b 31) : Nat) : Int)), .inl (.int .u8 ((((b 31) % 128) : Nat) : Int)), .inr (0, 31), .inl (.agg (ck (updN b 31 ((b 31) % 128)))), .inl (el (dig y)), .inl (el (dig y)), .inl (.agg (ck (byt (dig y)))), .inl (.agg (ck (updN b 31 ((b 31) % 128)))), .inl (.bool true), .inl (.agg (ces [0, 0])), uu, uu, uu, uu, uu, uu, uu, uu, uu, uu, uu, uu, uu, uu, uu, uu, uu, uu, uu, uu, uu, uu, uu] [(ck (updN b 31 ((b 31) % 128)), 23), (ces [0, 0], 31), (ce y, 29)] [(ck (updN b 31 ((b 31) % 128)), 23), (ces [0, 0], 31), (ce y, 29)] [#[], ces [0, 0], #[]] [nn, ⟨none, some 1, none, false⟩, nn] (by kernel_rfl) (by kernel_rfl) (by kernel_rfl) (by kernel_rfl) (by kernel_rfl) (by kernel_rfl) (by kernel_rfl) (by kernel_rfl) ?_ ?_
  · refine ok_cons (ok_build (vs := #[]) (v := .agg (ces [0, 0])) bdP0 rfl (by kernel_rfl) rfl (by kernel_rfl) (by kernel_rfl) (by kernel_rfl)) ?_
    refine ok_cons (ok_store (b := 1) (off := 0) (u := .agg (ces [0, 0])) (c := ces [0, 0]) (n := ces [0, 0]) (stP (a := 0) (b := 0) (c := ces [0, 0]) 31 (by rw [ces_size]; rfl)) rfl (by kernel_rfl) rfl (by kernel_rfl) (by kernel_rfl) (by kernel_rfl) (by kernel_rfl) (by kernel_rfl)) ?_
    refine ok_cons (ok_mv (Or.inr rfl) (by kernel_rfl) rfl (by kernel_rfl) (by kernel_rfl)) ?_
    exact ok_nil
  clear h; intro β a w h
  refine sym_then ?_
  refine wp_ret ?_
  refine then_ret ?_
  exact sym_ret2 (b := 1) (t0 := 31) (c := ces [0, 0]) h Try.results10 (by kernel_rfl) (by kernel_rfl) (by kernel_rfl) (by kernel_rfl) (by kernel_rfl) Try.underlying31 rfl (by rw [ces_size]; kernel_rfl) (fun hb => ⟨rfl, hb⟩)

set_option maxHeartbeats 4000000 in
theorem of_xo {b : Nat → Nat} (hb : ∀ i, b i < 256) {y r : Nat} (hy : y < pp) (cO : ∀ w, Calls Try.prog 28 #[.agg (ck (updN b 31 (b 31 % 128)))] w fun e w' => e = .returned (el (dig y)) ∧ Below w.heap.size w w') (hkey : ∀ i, i < 32 → byt (dig y) i = (updN b 31 (b 31 % 128)) i) (cE : ∀ w, Calls Try.prog 30 #[el (dig y)] w fun e w' => e = .returned (.tuple #[el (dig r), .bool false]) ∧ Below w.heap.size w w') (hod : 128 ≤ b 31) (W0 : World) : Calls Try.prog 10 #[.agg (ck b)] W0 fun e w' => e = .returned (.tuple #[.agg (ces [0, 0]), .bool false]) ∧ Below W0.heap.size W0 w' := by
  have g1 := hb 31
  refine sym_enter Try.func10 Try.ntmps10 rfl [.inl (.agg (ck b)), uu, uu, uu, uu, uu, uu, uu, uu, uu, uu, uu, uu, uu, uu, uu, uu, uu, uu, uu, uu, uu, uu, uu, uu, uu, uu, uu, uu, uu, uu, uu, uu, uu, uu, uu, uu, uu, uu, uu, uu, uu, uu, uu, uu, uu] (by kernel_rfl) (by kernel_rfl) ?_
  intro β a h
  refine sym_seq ?_
  refine St.region h [.inl (.agg (ck b)), .inr (0, 0), .inr (1, 0), .inl (.bool false), uu, uu, uu, uu, uu, uu, uu, uu, uu, uu, uu, uu, uu, uu, uu, uu, uu, uu, uu, uu, uu, uu, uu, uu, uu, uu, uu, uu, uu, uu, uu, uu, uu, uu, uu, uu, uu, uu, uu, uu, uu, uu] [(ck b, 23), (ces [0, 0], 31)] [(ck b, 23), (ces [0, 0], 31)] [#[], #[]] [⟨some 0, none, none, false⟩, ⟨some 1, none, none, false⟩, nn] (by kernel_rfl) (by kernel_rfl) (by kernel_rfl) (by kernel_rfl) (by kernel_rfl) (by kernel_rfl) (by kernel_rfl) (by kernel_rfl) ?_ ?_
  · refine ok_cons (ok_box (b := 0) (u := .agg (ck b)) (bxK (b := b)) rfl (by kernel_rfl) rfl (by kernel_rfl) (by kernel_rfl) (by kernel_rfl) (by kernel_rfl)) ?_
    refine ok_cons (ok_alloc (b := 1) alP rfl (by kernel_rfl) rfl (by kernel_rfl) (by kernel_rfl)) ?_
    refine ok_cons (ok_mv (Or.inr rfl) (by kernel_rfl) rfl (by kernel_rfl) (by kernel_rfl)) ?_
    exact ok_nil
  clear h; intro β a w h
  refine sym_then ?_
  refine sym_seq ?_
  refine St.region h [.inl (.agg (ck b)), .inr (0, 0), .inr (1, 0), .inl (.bool false), .inl (.bool true), uu, uu, uu, .inr (0, 31), .inl (.int .u8 (((b 31) : Nat) : Int)), .inl (.int .u8 ((((b 31) / 128 * 128) : Nat) : Int)), .inl (.bool true), uu, uu, uu, uu, uu, uu, uu, uu, uu, uu, uu, uu, uu, uu, uu, uu, uu, uu, uu, uu, uu, uu, uu, uu, uu, uu, uu, uu, uu, uu, uu, uu, uu, uu] [(ck b, 23), (ces [0, 0], 31)] [(ck b, 23), (ces [0, 0], 31)] [#[], #[]] [nn, ⟨none, none, some 0, false⟩, nn, nn, nn] (by kernel_rfl) (by kernel_rfl) (by kernel_rfl) (by kernel_rfl) (by kernel_rfl) (by kernel_rfl) (by kernel_rfl) (by kernel_rfl) ?_ ?_
  · refine ok_cons (ok_iaddr (b := 0) (off := 0) (off' := 31) (u := .int .i64 ((31 : Nat) : Int)) (ixK (i := 31) (by omega)) rfl (by kernel_rfl) rfl (by kernel_rfl) (by kernel_rfl) (by kernel_rfl) (by kernel_rfl)) ?_
    refine ok_cons (ok_load (b := 0) (off := 31) (c := ck b) (v := .int .u8 (((b 31) : Nat) : Int)) (ld_k (F := b) (i := 31) (t0 := 23) (by omega)) rfl (by kernel_rfl) rfl (by kernel_rfl) (by kernel_rfl) (by kernel_rfl)) ?_
    refine ok_cons (ok_bin (x1 := .int .u8 (((b 31) : Nat) : Int)) (u1 := .int .u8 ((128 : Nat) : Int)) (v := .int .u8 ((((b 31) / 128 * 128) : Nat) : Int)) (and_b (m := (b 31)) (by omega)) rfl (by kernel_rfl) rfl (by kernel_rfl) (by kernel_rfl) (by kernel_rfl) (by kernel_rfl) (by kernel_rfl)) ?_
    refine ok_cons (ok_bin (x1 := .int .u8 ((((b 31) / 128 * 128) : Nat) : Int)) (u1 := .int .u8 ((0 : Nat) : Int)) (v := .bool true) (ne_b (m := ((b 31) / 128 * 128)) (n := 0) (decide_eq_true (by omega))) rfl (by kernel_rfl) rfl (by kernel_rfl) (by kernel_rfl) (by kernel_rfl) (by kernel_rfl) (by kernel_rfl)) ?_
    refine ok_cons (ok_mv (Or.inr rfl) (by kernel_rfl) rfl (by kernel_rfl) (by kernel_rfl)) ?_
    exact ok_nil
  clear h; intro β a w h
  refine sym_then ?_
  refine sym_seq ?_
  refine St.region h [.inl (.agg (ck b)), .inr (0, 0), .inr (1, 0), .inl (.bool false), .inl (.bool true), uu, uu, uu, .inr (0, 31), .inl (.int .u8 (((b 31) : Nat) : Int)), .inl (.int .u8 ((((b 31) / 128 * 128) : Nat) : Int)), .inl (.bool true), .inr (0, 31), .inl (.int .u8 (((b 31) : Nat) : Int)), .inl (.int .u8 ((((b 31) % 128) : Nat) : Int)), .inr (0, 31), uu, uu, uu, uu, uu, uu, uu, uu, uu, uu, uu, uu, uu, uu, uu, uu, uu, uu, uu, uu, uu, uu, uu, uu, uu, uu, uu, uu, uu, uu] [(ck (updN b 31 ((b 31) % 128)), 23), (ces [0, 0], 31)] [(ck b, 23), (ces [0, 0], 31)] [ck (updN b 31 ((b 31) % 128)), #[]] [nn, ⟨none, none, some 0, false⟩, nn, nn, ⟨none, some 0, none, false⟩] (by kernel_rfl) (by kernel_rfl) (by kernel_rfl) (by kernel_rfl) (by kernel_rfl) (by kernel_rfl) (by kernel_rfl) (by kernel_rfl) ?_ ?_
  · refine ok_cons (ok_iaddr (b := 0) (off := 0) (off' := 31) (u := .int .i64 ((31 : Nat) : Int)) (ixK (i := 31) (by omega)) rfl (by kernel_rfl) rfl (by kernel_rfl) (by kernel_rfl) (by kernel_rfl) (by kernel_rfl)) ?_
    refine ok_cons (ok_load (b := 0) (off := 31) (c := ck b) (v := .int .u8 (((b 31) : Nat) : Int)) (ld_k (F := b) (i := 31) (t0 := 23) (by omega)) rfl (by kernel_rfl) rfl (by kernel_rfl) (by kernel_rfl) (by kernel_rfl)) ?_
    refine ok_cons (ok_bin (x1 := .int .u8 (((b 31) : Nat) : Int)) (u1 := .int .u8 ((128 : Nat) : Int)) (v := .int .u8 ((((b 31) % 128) : Nat) : Int)) (an_b (m := (b 31)) (by omega)) rfl (by kernel_rfl) rfl (by kernel_rfl) (by kernel_rfl) (by kernel_rfl) (by kernel_rfl) (by kernel_rfl)) ?_
    refine ok_cons (ok_iaddr (b := 0) (off := 0) (off' := 31) (u := .int .i64 ((31 : Nat) : Int)) (ixK (i := 31) (by omega)) rfl (by kernel_rfl) rfl (by kernel_rfl) (by kernel_rfl) (by kernel_rfl) (by kernel_rfl)) ?_
    refine ok_cons (ok_store (b := 0) (off := 31) (u := .int .u8 ((((b 31) % 128) : Nat) : Int)) (c := ck b) (n := ck (updN b 31 ((b 31) % 128))) (st_k (F := b) (i := 31) (v := ((b 31) % 128)) (t0 := 23) (by omega)) rfl (by kernel_rfl) rfl (by kernel_rfl) (by kernel_rfl) (by kernel_rfl) (by kernel_rfl) (by kernel_rfl)) ?_
    exact ok_nil
  clear h; intro β a w h
  refine sym_then ?_
  refine sym_seq ?_
  refine St.region h [.inl (.agg (ck b)), .inr (0, 0), .inr (1, 0), .inl (.bool false), .inl (.bool true), .inr (2, 0), uu, uu, .inr (0, 31), .inl (.int .u8 (((b 31) : Nat) : Int)), .inl (.int .u8 ((((b 31) / 128 * 128) : Nat) : Int)), .inl (.bool true), .inr (0, 31), .inl (.int .u8 (((b 31) : Nat) : Int)), .inl (.int .u8 ((((b 31) % 128) : Nat) : Int)), .inr (0, 31), .inl (.agg (ck (updN b 31 ((b 31) % 128)))), .inl (el (dig y)), uu, uu, uu, uu, uu, uu, uu, uu, uu, uu, uu, uu, uu, uu, uu, uu, uu, uu, uu, uu, uu, uu, uu, uu, uu, uu, uu, uu] [(ck (updN b 31 ((b 31) % 128)), 23), (ces [0, 0], 31), (ce y, 29)] [(ck (updN b 31 ((b 31) % 128)), 23), (ces [0, 0], 31), (ce 0, 29)] [#[], #[], ce y] [⟨none, none, some 0, false⟩, nn, ⟨some 2, none, none, false⟩, ⟨none, some 2, none, false⟩] (by kernel_rfl) (by kernel_rfl) (by kernel_rfl) (by kernel_rfl) (by kernel_rfl) (by kernel_rfl) (by kernel_rfl) (by kernel_rfl) ?_ ?_
  · refine ok_cons (ok_load (b := 0) (off := 0) (c := ck (updN b 31 ((b 31) % 128))) (v := .agg (ck (updN b 31 ((b 31) % 128)))) (ldK (b := (updN b 31 ((b 31) % 128))) 23) rfl (by kernel_rfl) rfl (by kernel_rfl) (by kernel_rfl) (by kernel_rfl)) ?_
    refine ok_cons (ok_call (vs := #[.agg (ck (updN b 31 ((b 31) % 128)))]) (R := el (dig y)) cO rfl (by kernel_rfl) rfl (by kernel_rfl) (by kernel_rfl) (by kernel_rfl) (fun w => by kernel_rfl)) ?_
    refine ok_cons (ok_alloc (b := 2) alE rfl (by kernel_rfl) rfl (by kernel_rfl) (by kernel_rfl)) ?_
    refine ok_cons (ok_store (b := 2) (off := 0) (u := el (dig y)) (c := ce 0) (n := ce y) (stE (n := y) (c := ce 0) 29 (ce_size _)) rfl (by kernel_rfl) rfl (by kernel_rfl) (by kernel_rfl) (by kernel_rfl) (by kernel_rfl) (by kernel_rfl)) ?_
    exact ok_nil
  clear h; intro β a w h
  refine sym_then ?_
  refine sym_seq ?_
  refine sym_seq ?_
  refine St.region h [.inl (.agg (ck b)), .inr (0, 0), .inr (1, 0), .inl (.bool false), .inl (.bool true), .inr (2, 0), uu, uu, .inr (0, 31), .inl (.int .u8 (((b 31) : Nat) : Int)), .inl (.int .u8 ((((b 31) / 128 * 128) : Nat) : Int)), .inl (.bool true), .inr (0, 31), .inl (.int .u8 (((b 31) : Nat) : Int)), .inl (.int .u8 ((((b 31) % 128) : Nat) : Int)), .inr (0, 31), .inl (.agg (ck (updN b 31 ((b 31) % 128)))), .inl (el (dig y)), .inl (el (dig y)), .inl (.agg (ck (byt (dig y)))), .inl (.agg (ck (updN b 31 ((b 31) % 128)))), .inl (.bool false), uu, uu, uu, uu, uu, uu, uu, uu, uu, uu, uu, uu, uu, uu, uu, uu, uu, uu, uu, uu, uu, uu, uu, uu] [(ck (updN b 31 ((b 31) % 128)), 23), (ces [0, 0], 31), (ce y, 29)] [(ck (updN b 31 ((b 31) % 128)), 23), (ces [0, 0], 31), (ce y, 29)] [#[], #[], #[]] [⟨none, none, some 2, false⟩, nn, ⟨none, none, some 0, false⟩, nn] (by kernel_rfl) (by kernel_rfl) (by kernel_rfl) (by kernel_rfl) (by kernel_rfl) (by kernel_rfl) (by kernel_rfl) (by kernel_rfl) ?_ ?_
  · refine ok_cons (ok_load (b := 2) (off := 0) (c := ce y) (v := el (dig y)) (ldE (n := y) 29) rfl (by kernel_rfl) rfl (by kernel_rfl) (by kernel_rfl) (by kernel_rfl)) ?_
    refine ok_cons (ok_call (vs := #[el (dig y)]) (R := .agg (ck (byt (dig y)))) (fun w => key_d hy w) rfl (by kernel_rfl) rfl (by kernel_rfl) (by kernel_rfl) (by kernel_rfl) (fun w => by kernel_rfl)) ?_
    refine ok_cons (ok_load (b := 0) (off := 0) (c := ck (updN b 31 ((b 31) % 128))) (v := .agg (ck (updN b 31 ((b 31) % 128)))) (ldK (b := (updN b 31 ((b 31) % 128))) 23) rfl (by kernel_rfl) rfl (by kernel_rfl) (by kernel_rfl) (by kernel_rfl)) ?_
    refine ok_cons (ok_bin (x1 := .agg (ck (byt (dig y)))) (u1 := .agg (ck (updN b 31 ((b 31) % 128)))) (v := .bool false) (neK_f (F := (byt (dig y))) (G := (updN b 31 ((b 31) % 128))) hkey) rfl (by kernel_rfl) rfl (by kernel_rfl) (by kernel_rfl) (by kernel_rfl) (by kernel_rfl) (by kernel_rfl)) ?_
    exact ok_nil
  clear h; intro β a w h
  refine sym_then ?_
  refine sym_cond_f h (by kernel_rfl) (by kernel_rfl) ?_
  refine wp_skip ?_
  refine sym_then ?_
  refine sym_seq ?_
  refine St.region h [.inl (.agg (ck b)), .inr (0, 0), .inr (1, 0), .inl (.bool false), .inl (.bool true), .inr (2, 0), .inr (3, 0), .inl (.bool false), .inr (0, 31), .inl (.int .u8 (((b 31) : Nat) : Int)), .inl (.int .u8 ((((b 31) / 128 * 128) : Nat) : Int)), .inl (.bool true), .inr (0, 31), .inl (.int .u8 (((b 31) : Nat) : Int)), .inl (.int .u8 ((((b 31) % 128) : Nat) : Int)), .inr (0, 31), .inl (.agg (ck (updN b 31 ((b 31) % 128)))), .inl (el (dig y)), .inl (el (dig y)), .inl (.agg (ck (byt (dig y)))), .inl (.agg (ck (updN b 31 ((b 31) % 128)))), .inl (.bool false), uu, .inl (.tuple #[el (dig r), .bool false]), .inl (el (dig y)), .inl (.tuple #[el (dig r), .bool false]), .inl (el (dig r)), .inl (.bool false), uu, uu, uu, uu, uu, uu, uu, uu, uu, uu, uu, uu, uu, uu, uu, uu, uu, uu] [(ck (updN b 31 ((b 31) % 128)), 23), (ces [0, 0], 31), (ce y, 29), (ce r, 29)] [(ck (updN b 31 ((b 31) % 128)), 23), (ces [0, 0], 31), (ce y, 29), (ce 0, 29)] [#[], #[], #[], ce r] [⟨none, none, some 2, false⟩, nn, nn, nn, nn, ⟨some 3, none, none, false⟩, ⟨none, some 3, none, false⟩, nn] (by kernel_rfl) (by kernel_rfl) (by kernel_rfl) (by kernel_rfl) (by kernel_rfl) (by kernel_rfl) (by kernel_rfl) (by kernel_rfl) ?_ ?_
  · refine ok_cons (ok_load (b := 2) (off := 0) (c := ce y) (v := el (dig y)) (ldE (n := y) 29) rfl (by kernel_rfl) rfl (by kernel_rfl) (by kernel_rfl) (by kernel_rfl)) ?_
    refine ok_cons (ok_call (vs := #[el (dig y)]) (R := .tuple #[el (dig r), .bool false]) cE rfl (by kernel_rfl) rfl (by kernel_rfl) (by kernel_rfl) (by kernel_rfl) (fun w => by kernel_rfl)) ?_
    refine ok_cons (ok_mv (Or.inl rfl) (by kernel_rfl) rfl (by kernel_rfl) (by kernel_rfl)) ?_
    refine ok_cons (ok_ext (x1 := .tuple #[el (dig r), .bool false]) (v := el (dig r)) (fun w => by kernel_rfl) rfl (by kernel_rfl) rfl (by kernel_rfl) (by kernel_rfl) (by kernel_rfl)) ?_
    refine ok_cons (ok_ext (x1 := .tuple #[el (dig r), .bool false]) (v := .bool false) (fun w => by kernel_rfl) rfl (by kernel_rfl) rfl (by kernel_rfl) (by kernel_rfl) (by kernel_rfl)) ?_
    refine ok_cons (ok_alloc (b := 3) alE rfl (by kernel_rfl) rfl (by kernel_rfl) (by kernel_rfl)) ?_
    refine ok_cons (ok_store (b := 3) (off := 0) (u := el (dig r)) (c := ce 0) (n := ce r) (stE (n := r) (c := ce 0) 29 (ce_size _)) rfl (by kernel_rfl) rfl (by kernel_rfl) (by kernel_rfl) (by kernel_rfl) (by kernel_rfl) (by kernel_rfl)) ?_
    refine ok_cons (ok_mv (Or.inr rfl) (by kernel_rfl) rfl (by kernel_rfl) (by kernel_rfl)) ?_
    exact ok_nil
  clear h; intro β a w h
  refine sym_then ?_
  refine sym_seq ?_
  refine sym_seq ?_
  refine St.region h [.inl (.agg (ck b)), .inr (0, 0), .inr (1, 0), .inl (.bool false), .inl (.bool true), .inr (2, 0), .inr (3, 0), .inl (.bool false), .inr (0, 31), .inl (.int .u8 (((b 31) : Nat) : Int)), .inl (.int .u8 ((((b 31) / 128 * 128) : Nat) : Int)), .inl (.bool true), .inr (0, 31), .inl (.int .u8 (((b 31) : Nat) : Int)), .inl (.int .u8 ((((b 31) % 128) : Nat) : Int)), .inr (0, 31), .inl (.agg (ck (updN b 31 ((b 31) % 128)))), .inl (el (dig y)), .inl (el (dig y)), .inl (.agg (ck (byt (dig y)))), .inl (.agg (ck (updN b 31 ((b 31) % 128)))), .inl (.bool false), uu, .inl (.tuple #[el (dig r), .bool false]), .inl (el (dig y)), .inl (.tuple #[el (dig r), .bool false]), .inl (el (dig r)), .inl (.bool false), .inl (.bool false), .inl (.bool true), .inl (.bool true), uu, uu, uu, uu, uu, uu, .inl (.bool true), uu, uu, uu, uu, uu, uu, uu, uu] [(ck (updN b 31 ((b 31) % 128)), 23), (ces [0, 0], 31), (ce y, 29), (ce r, 29)] [(ck (updN b 31 ((b 31) % 128)), 23), (ces [0, 0], 31), (ce y, 29), (ce r, 29)] [#[], #[], #[], #[]] [nn, nn, nn, nn, nn, nn, nn, nn, nn, nn] (by kernel_rfl) (by kernel_rfl) (by kernel_rfl) (by kernel_rfl) (by kernel_rfl) (by kernel_rfl) (by kernel_rfl) (by kernel_rfl) ?_ ?_
  · refine ok_cons (ok_mv (Or.inl rfl) (by kernel_rfl) rfl (by kernel_rfl) (by kernel_rfl)) ?_
    refine ok_cons (ok_not (b := false) rfl (by kernel_rfl) rfl (by kernel_rfl) (by kernel_rfl) (by kernel_rfl)) ?_
    refine ok_cons (ok_mv (Or.inl rfl) (by kernel_rfl) rfl (by kernel_rfl) (by kernel_rfl)) ?_
    refine ok_cons (ok_skip (by kernel_rfl) rfl (by kernel_rfl)) ?_
    refine ok_cons (ok_skip (by kernel_rfl) rfl (by kernel_rfl)) ?_
    refine ok_cons (ok_skip (by kernel_rfl) rfl (by kernel_rfl)) ?_
    refine ok_cons (ok_skip (by kernel_rfl) rfl (by kernel_rfl)) ?_
    refine ok_cons (ok_skip (by kernel_rfl) rfl (by kernel_rfl)) ?_
    refine ok_cons (ok_skip (by kernel_rfl) rfl (by kernel_rfl)) ?_
    refine ok_cons (ok_pick_t rfl (by kernel_rfl) rfl (by kernel_rfl) (by kernel_rfl) (by kernel_rfl) (by kernel_rfl)) ?_
    exact ok_nil
  clear h; intro β a w h
  refine sym_then ?_
  refine sym_cond_t h (by kernel_rfl) (by kernel_rfl) ?_
  refine sym_seq ?_
  refine St.region h [.inl (.agg (ck b)), .inr (0, 0), .inr (1, 0), .inl (.bool false), .inl (.bool true), .inr (2, 0), .inr (3, 0), .inl (.bool false), .inr (0, 31), .inl (.int .u8 (((b 31) : Nat) : Int)), .inl (.int .u8 ((((b 31) / 128 * 128) : Nat) : Int)), .inl (.bool true), .inr (0, 31), .inl (.int .u8 (((b 31) : Nat) : Int)), .inl (.int .u8 ((((b 31) % 128) : Nat) : Int)), .inr (0, 31), .inl (.agg (ck (updN b 31 ((b 31) % 128)))), .inl (el (dig y)), .inl (el (dig y)), .inl (.agg (ck (byt (dig y)))), .inl (.agg (ck (updN b 31 ((b 31) % 128)))), .inl (.bool false), uu, .inl (.tuple #[el (dig r), .bool false]), .inl (el (dig y)), .inl (.tuple #[el (dig r), .bool false]), .inl (el (dig r)), .inl (.bool false), .inl (.bool false), .inl (.bool true), .inl (.bool true), uu, uu, uu, uu, uu, uu, .inl (.bool true), .inl (.agg (ces [0, 0])), uu, uu, uu, uu, uu, uu, uu] [(ck (updN b 31 ((b 31) % 128)), 23), (ces [0, 0], 31), (ce y, 29), (ce r, 29)] [(ck (updN b 31 ((b 31) % 128)), 23), (ces [0, 0], 31), (ce y, 29), (ce r, 29)] [#[], ces [0, 0], #[], #[]] [nn, ⟨none, some 1, none, false⟩, nn] (by kernel_rfl) (by kernel_rfl) (by kernel_rfl) (by kernel_rfl) (by kernel_rfl) (by kernel_rfl) (by kernel_rfl) (by kernel_rfl) ?_ ?_
  · refine ok_cons (ok_build (vs := #[]) (v := .agg (ces [0, 0])) bdP0 rfl (by kernel_rfl) rfl (by kernel_rfl) (by kernel_rfl) (by kernel_rfl)) ?_
    refine ok_cons (ok_store (b := 1) (off := 0) (u := .agg (ces [0, 0])) (c := ces [0, 0]) (n := ces [0, 0]) (stP (a := 0) (b := 0) (c := ces [0, 0]) 31 (by rw [ces_size]; rfl)) rfl (by kernel_rfl) rfl (by kernel_rfl) (by kernel_rfl) (by kernel_rfl) (by kernel_rfl) (by kernel_rfl)) ?_
    refine ok_cons (ok_mv (Or.inr rfl) (by kernel_rfl) rfl (by kernel_rfl) (by kernel_rfl)) ?_
    exact ok_nil
  clear h; intro β a w h
  refine sym_then ?_
  refine wp_ret ?_
  refine then_ret ?_
  exact sym_ret2 (b := 1) (t0 := 31) (c := ces [0, 0]) h Try.results10 (by kernel_rfl) (by kernel_rfl) (by kernel_rfl) (by kernel_rfl) (by kernel_rfl) Try.underlying31 rfl (by rw [ces_size]; kernel_rfl) (fun hb => ⟨rfl, hb⟩)

set_option maxHeartbeats 4000000 in
theorem of_ne {b : Nat → Nat} (hb : ∀ i, b i < 256) {y : Nat} (hy : y < pp) (cO : ∀ w, Calls Try.prog 28 #[.agg (ck (updN b 31 (b 31 % 128)))] w fun e w' => e = .returned (el (dig y)) ∧ Below w.heap.size w w') (hkey : ¬ ∀ i, i < 32 → byt (dig y) i = (updN b 31 (b 31 % 128)) i) (hod : b 31 < 128) (W0 : World) : Calls Try.prog 10 #[.agg (ck b)] W0 fun e w' => e = .returned (.tuple #[.agg (ces [0, 0]), .bool false]) ∧ Below W0.heap.size W0 w' := by
  have g1 := hb 31
  refine sym_enter Try.func10 Try.ntmps10 rfl [.inl (.agg (ck b)), uu, uu, uu, uu, uu, uu, uu, uu, uu, uu, uu, uu, uu, uu, uu, uu, uu, uu, uu, uu, uu, uu, uu, uu, uu, uu, uu, uu, uu, uu, uu, uu, uu, uu, uu, uu, uu, uu, uu, uu, uu, uu, uu, uu, uu] (by kernel_rfl) (by kernel_rfl) ?_
  intro β a h
  refine sym_seq ?_
  refine St.region h [.inl (.agg (ck b)), .inr (0, 0), .inr (1, 0), .inl (.bool false), uu, uu, uu, uu, uu, uu, uu, uu, uu, uu, uu, uu, uu, uu, uu, uu, uu, uu, uu, uu, uu, uu, uu, uu, uu, uu, uu, uu, uu, uu, uu, uu, uu, uu, uu, uu, uu, uu, uu, uu, uu, uu] [(ck b, 23), (ces [0, 0], 31)] [(ck b, 23), (ces [0, 0], 31)] [#[], #[]] [⟨some 0, none, none, false⟩, ⟨some 1, none, none, false⟩, nn] (by kernel_rfl) (by kernel_rfl) (by kernel_rfl) (by kernel_rfl) (by kernel_rfl) (by kernel_rfl) (by kernel_rfl) (by kernel_rfl) ?_ ?_
  · refine ok_cons (ok_box (b := 0) (u := .agg (ck b)) (bxK (b := b)) rfl (by kernel_rfl) rfl (by kernel_rfl) (by kernel_rfl) (by kernel_rfl) (by kernel_rfl)) ?_
    refine ok_cons (ok_alloc (b := 1) alP rfl (by kernel_rfl) rfl (by kernel_rfl) (by kernel_rfl)) ?_
    refine ok_cons (ok_mv (Or.inr rfl) (by kernel_rfl) rfl (by kernel_rfl) (by kernel_rfl)) ?_
    exact ok_nil
  clear h; intro β a w h
  refine sym_then ?_
  refine sym_seq ?_
  refine St.region h [.inl (.agg (ck b)), .inr (0, 0), .inr (1, 0), .inl (.bool false), .inl (.bool false), uu, uu, uu, .inr (0, 31), .inl (.int .u8 (((b 31) : Nat) : Int)), .inl (.int .u8 ((((b 31) / 128 * 128) : Nat) : Int)), .inl (.bool false), uu, uu, uu, uu, uu, uu, uu, uu, uu, uu, uu, uu, uu, uu, uu, uu, uu, uu, uu, uu, uu, uu, uu, uu, uu, uu, uu, uu, uu, uu, uu, uu, uu, uu] [(ck b, 23), (ces [0, 0], 31)] [(ck b, 23), (ces [0, 0], 31)] [#[], #[]] [nn, ⟨none, none, some 0, false⟩, nn, nn, nn] (by kernel_rfl) (by kernel_rfl) (by kernel_rfl) (by kernel_rfl) (by kernel_rfl) (by kernel_rfl) (by kernel_rfl) (by kernel_rfl) ?_ ?_
  · refine ok_cons (ok_iaddr (b := 0) (off := 0) (off' := 31) (u := .int .i64 ((31 : Nat) : Int)) (ixK (i := 31) (by omega)) rfl (by kernel_rfl) rfl (by kernel_rfl) (by kernel_rfl) (by kernel_rfl) (by kernel_rfl)) ?_
    refine ok_cons (ok_load (b := 0) (off := 31) (c := ck b) (v := .int .u8 (((b 31) : Nat) : Int)) (ld_k (F := b) (i := 31) (t0 := 23) (by omega)) rfl (by kernel_rfl) rfl (by kernel_rfl) (by kernel_rfl) (by kernel_rfl)) ?_
    refine ok_cons (ok_bin (x1 := .int .u8 (((b 31) : Nat) : Int)) (u1 := .int .u8 ((128 : Nat) : Int)) (v := .int .u8 ((((b 31) / 128 * 128) : Nat) : Int)) (and_b (m := (b 31)) (by omega)) rfl (by kernel_rfl) rfl (by kernel_rfl) (by kernel_rfl) (by kernel_rfl) (by kernel_rfl) (by kernel_rfl)) ?_
    refine ok_cons (ok_bin (x1 := .int .u8 ((((b 31) / 128 * 128) : Nat) : Int)) (u1 := .int .u8 ((0 : Nat) : Int)) (v := .bool false) (ne_b (m := ((b 31) / 128 * 128)) (n := 0) (decide_eq_false (by omega))) rfl (by kernel_rfl) rfl (by kernel_rfl) (by kernel_rfl) (by kernel_rfl) (by kernel_rfl) (by kernel_rfl)) ?_
    refine ok_cons (ok_mv (Or.inr rfl) (by kernel_rfl) rfl (by kernel_rfl) (by kernel_rfl)) ?_
    exact ok_nil
  clear h; intro β a w h
  refine sym_then ?_
  refine sym_seq ?_
  refine St.region h [.inl (.agg (ck b)), .inr (0, 0), .inr (1, 0), .inl (.bool false), .inl (.bool false), uu, uu, uu, .inr (0, 31), .inl (.int .u8 (((b 31) : Nat) : Int)), .inl (.int .u8 ((((b 31) / 128 * 128) : Nat) : Int)), .inl (.bool false), .inr (0, 31), .inl (.int .u8 (((b 31) : Nat) : Int)), .inl (.int .u8 ((((b 31) % 128) : Nat) : Int)), .inr (0, 31), uu, uu, uu, uu, uu, uu, uu, uu, uu, uu, uu, uu, uu, uu, uu, uu, uu, uu, uu, uu, uu, uu, uu, uu, uu, uu, uu, uu, uu, uu] [(ck (updN b 31 ((b 31) % 128)), 23), (ces [0, 0], 31)] [(ck b, 23), (ces [0, 0], 31)] [ck (updN b 31 ((b 31) % 128)), #[]] [nn, ⟨none, none, some 0, false⟩, nn, nn, ⟨none, some 0, none, false⟩] (by kernel_rfl) (by kernel_rfl) (by kernel_rfl) (by kernel_rfl) (by kernel_rfl) (by kernel_rfl) (by kernel_rfl) (by kernel_rfl) ?_ ?_
  · refine ok_cons (ok_iaddr (b := 0) (off := 0) (off' := 31) (u := .int .i64 ((31 : Nat) : Int)) (ixK (i := 31) (by omega)) rfl (by kernel_rfl) rfl (by kernel_rfl) (by kernel_rfl) (by kernel_rfl) (by kernel_rfl)) ?_
    refine ok_cons (ok_load (b := 0) (off := 31) (c := ck b) (v := .int .u8 (((b 31) : Nat) : Int)) (ld_k (F := b) (i := 31) (t0 := 23) (by omega)) rfl (by kernel_rfl) rfl (by kernel_rfl) (by kernel_rfl) (by kernel_rfl)) ?_
    refine ok_cons (ok_bin (x1 := .int .u8 (((b 31) : Nat) : Int)) (u1 := .int .u8 ((128 : Nat) : Int)) (v := .int .u8 ((((b 31) % 128) : Nat) : Int)) (an_b (m := (b 31)) (by omega)) rfl (by kernel_rfl) rfl (by kernel_rfl) (by kernel_rfl) (by kernel_rfl) (by kernel_rfl) (by kernel_rfl)) ?_
    refine ok_cons (ok_iaddr (b := 0) (off := 0) (off' := 31) (u := .int .i64 ((31 : Nat) : Int)) (ixK (i := 31) (by omega)) rfl (by kernel_rfl) rfl (by kernel_rfl) (by kernel_rfl) (by kernel_rfl) (by kernel_rfl)) ?_
    refine ok_cons (ok_store (b := 0) (off := 31) (u := .int .u8 ((((b 31) % 128) : Nat) : Int)) (c := ck b) (n := ck (updN b 31 ((b 31) % 128))) (st_k (F := b) (i := 31) (v := ((b 31) % 128)) (t0 := 23) (by omega)) rfl (by kernel_rfl) rfl (by kernel_rfl) (by kernel_rfl) (by kernel_rfl) (by kernel_rfl) (by kernel_rfl)) ?_
    exact ok_nil
  clear h; intro β a w h
  refine sym_then ?_
  refine sym_seq ?_
  refine St.region h [.inl (.agg (ck b)), .inr (0, 0), .inr (1, 0), .inl (.bool false), .inl (.bool false), .inr (2, 0), uu, uu, .inr (0, 31), .inl (.int .u8 (((b 31) : Nat) : Int)), .inl (.int .u8 ((((b 31) / 128 * 128) : Nat) : Int)), .inl (.bool false), .inr (0, 31), .inl (.int .u8 (((b 31) : Nat) : Int)), .inl (.int .u8 ((((b 31) % 128) : Nat) : Int)), .inr (0, 31), .inl (.agg (ck (updN b 31 ((b 31) % 128)))), .inl (el (dig y)), uu, uu, uu, uu, uu, uu, uu, uu, uu, uu, uu, uu, uu, uu, uu, uu, uu, uu, uu, uu, uu, uu, uu, uu, uu, uu, uu, uu] [(ck (updN b 31 ((b 31) % 128)), 23), (ces [0, 0], 31), (ce y, 29)] [(ck (updN b 31 ((b 31) % 128)), 23), (ces [0, 0], 31), (ce 0, 29)] [#[], #[], ce y] [⟨none, none, some 0, false⟩, nn, ⟨some 2, none, none, false⟩, ⟨none, some 2, none, false⟩] (by kernel_rfl) (by kernel_rfl) (by kernel_rfl) (by kernel_rfl) (by kernel_rfl) (by kernel_rfl) (by kernel_rfl) (by kernel_rfl) ?_ ?_
  · refine ok_cons (ok_load (b := 0) (off := 0) (c := ck (updN b 31 ((b 31) % 128))) (v := .agg (ck (updN b 31 ((b 31) % 128)))) (ldK (b := (updN b 31 ((b 31) % 128))) 23) rfl (by kernel_rfl) rfl (by kernel_rfl) (by kernel_rfl) (by kernel_rfl)) ?_
    refine ok_cons (ok_call (vs := #[.agg (ck (updN b 31 ((b 31) % 128)))]) (R := el (dig y)) cO rfl (by kernel_rfl) rfl (by kernel_rfl) (by kernel_rfl) (by kernel_rfl) (fun w => by kernel_rfl)) ?_
    refine ok_cons (ok_alloc (b := 2) alE rfl (by kernel_rfl) rfl (by kernel_rfl) (by kernel_rfl)) ?_
    refine ok_cons (ok_store (b := 2) (off := 0) (u := el (dig y)) (c := ce 0) (n := ce y) (stE (n := y) (c := ce 0) 29 (ce_size _)) rfl (by kernel_rfl) rfl (by kernel_rfl) (by kernel_rfl) (by kernel_rfl) (by kernel_rfl) (by kernel_rfl)) ?_
    exact ok_nil
  clear h; intro β a w h
  refine sym_then ?_
  refine sym_seq ?_
  refine sym_seq ?_
  refine St.region h [.inl (.agg (ck b)), .inr (0, 0), .inr (1, 0), .inl (.bool false), .inl (.bool false), .inr (2, 0), uu, uu, .inr (0, 31), .inl (.int .u8 (((b 31) : Nat) : Int)), .inl (.int .u8 ((((b 31) / 128 * 128) : Nat) : Int)), .inl (.bool false), .inr (0, 31), .inl (.int .u8 (((b 31) : Nat) : Int)), .inl (.int .u8 ((((b 31) % 128) : Nat) : Int)), .inr (0, 31), .inl (.agg (ck (updN b 31 ((b 31) % 128)))), .inl (el (dig y)), .inl (el (dig y)), .inl (.agg (ck (byt (dig y)))), .inl (.agg (ck (updN b 31 ((b 31) % 128)))), .inl (.bool true), uu, uu, uu, uu, uu, uu, uu, uu, uu, uu, uu, uu, uu, uu, uu, uu, uu, uu, uu, uu, uu, uu, uu, uu] [(ck (updN b 31 ((b 31) % 128)), 23), (ces [0, 0], 31), (ce y, 29)] [(ck (updN b 31 ((b 31) % 128)), 23), (ces [0, 0], 31), (ce y, 29)] [#[], #[], #[]] [⟨none, none, some 2, false⟩, nn, ⟨none, none, some 0, false⟩, nn] (by kernel_rfl) (by kernel_rfl) (by kernel_rfl) (by kernel_rfl) (by kernel_rfl) (by kernel_rfl) (by kernel_rfl) (by kernel_rfl) ?_ ?_
  · refine ok_cons (ok_load (b := 2) (off := 0) (c := ce y) (v := el (dig y)) (ldE (n := y) 29) rfl (by kernel_rfl) rfl (by kernel_rfl) (by kernel_rfl) (by kernel_rfl)) ?_
    refine ok_cons (ok_call (vs := #[el (dig y)]) (R := .agg (ck (byt (dig y)))) (fun w => key_d hy w) rfl (by kernel_rfl) rfl (by kernel_rfl) (by kernel_rfl) (by kernel_rfl) (fun w => by kernel_rfl)) ?_
    refine ok_cons (ok_load (b := 0) (off := 0) (c := ck (updN b 31 ((b 31) % 128))) (v := .agg (ck (updN b 31 ((b 31) % 128)))) (ldK (b := (updN b 31 ((b 31) % 128))) 23) rfl (by kernel_rfl) rfl (by kernel_rfl) (by kernel_rfl) (by kernel_rfl)) ?_
    refine ok_cons (ok_bin (x1 := .agg (ck (byt (dig y)))) (u1 := .agg (ck (updN b 31 ((b 31) % 128)))) (v := .bool true) (neK_t (F := (byt (dig y))) (G := (updN b 31 ((b 31) % 128))) hkey) rfl (by kernel_rfl) rfl (by kernel_rfl) (by kernel_rfl) (by kernel_rfl) (by kernel_rfl) (by kernel_rfl)) ?_
    exact ok_nil
  clear h; intro β a w h
  refine sym_then ?_
  refine sym_cond_t h (by kernel_rfl) (by kernel_rfl) ?_
  refine sym_seq ?_
  refine St.region h [.inl (.agg (ck b)), .inr (0, 0), .inr (1, 0), .inl (.bool false), .inl (.bool false), .inr (2, 0), uu, uu, .inr (0, 31), .inl (.int .u8 (((b 31) : Nat) : Int)), .inl (.int .u8 ((((b 31) / 128 * 128) : Nat) : Int)), .inl (.bool false), .inr (0, 31), .inl (.int .u8 (((b 31) : Nat) : Int)), .inl (.int .u8 ((((b 31) % 128) : Nat) : Int)), .inr (0, 31), .inl (.agg (ck (updN b 31 ((b 31) % 128)))), .inl (el (dig y)), .inl (el (dig y)), .inl (.agg (ck (byt (dig y)))), .inl (.agg (ck (updN b 31 ((b 31) % 128)))), .inl (.bool true), .inl (.agg (ces [0, 0])), uu, uu, uu, uu, uu, uu, uu, uu, uu, uu, uu, uu, uu, uu, uu, uu, uu, uu, uu, uu, uu, uu, uu] [(ck (updN b 31 ((b 31) % 128)), 23), (ces [0, 0], 31), (ce y, 29)] [(ck (updN b 31 ((b 31) % 128)), 23), (ces [0, 0], 31), (ce y, 29)] [#[], ces [0, 0], #[]] [nn, ⟨none, some 1, none, false⟩, nn] (by kernel_rfl) (by kernel_rfl) (by kernel_rfl) (by kernel_rfl) (by kernel_rfl) (by kernel_rfl) (by kernel_rfl) (by kernel_rfl) ?_ ?_
  · refine ok_cons (ok_build (vs := #[]) (v := .agg (ces [0, 0])) bdP0 rfl (by kernel_rfl) rfl (by kernel_rfl) (by kernel_rfl) (by kernel_rfl)) ?_
    refine ok_cons (ok_store (b := 1) (off := 0) (u := .agg (ces [0, 0])) (c := ces [0, 0]) (n := ces [0, 0]) (stP (a := 0) (b := 0) (c := ces [0, 0]) 31 (by rw [ces_size]; rfl)) rfl (by kernel_rfl) rfl (by kernel_rfl) (by kernel_rfl) (by kernel_rfl) (by kernel_rfl) (by kernel_rfl)) ?_
    refine ok_cons (ok_mv (Or.inr rfl) (by kernel_rfl) rfl (by kernel_rfl) (by kernel_rfl)) ?_
    exact ok_nil
  clear h; intro β a w h
  refine sym_then ?_
  refine wp_ret ?_
  refine then_ret ?_
  exact sym_ret2 (b := 1) (t0 := 31) (c := ces [0, 0]) h Try.results10 (by kernel_rfl) (by kernel_rfl) (by kernel_rfl) (by kernel_rfl) (by kernel_rfl) Try.underlying31 rfl (by rw [ces_size]; kernel_rfl) (fun hb => ⟨rfl, hb⟩)

set_option maxHeartbeats 4000000 in
theorem of_xe {b : Nat → Nat} (hb : ∀ i, b i < 256) {y r : Nat} (hy : y < pp) (cO : ∀ w, Calls Try.prog 28 #[.agg (ck (updN b 31 (b 31 % 128)))] w fun e w' => e = .returned (el (dig y)) ∧ Below w.heap.size w w') (hkey : ∀ i, i < 32 → byt (dig y) i = (updN b 31 (b 31 % 128)) i) (cE : ∀ w, Calls Try.prog 30 #[el (dig y)] w fun e w' => e = .returned (.tuple #[el (dig r), .bool false]) ∧ Below w.heap.size w w') (hod : b 31 < 128) (W0 : World) : Calls Try.prog 10 #[.agg (ck b)] W0 fun e w' => e = .returned (.tuple #[.agg (ces [0, 0]), .bool false]) ∧ Below W0.heap.size W0 w' := by
  have g1 := hb 31
  refine sym_enter Try.func10 Try.ntmps10 rfl [.inl (.agg (ck b)), uu, uu, uu, uu, uu, uu, uu, uu, uu, uu, uu, uu, uu, uu, uu, uu, uu, uu, uu, uu, uu, uu, uu, uu, uu, uu, uu, uu, uu, uu, uu, uu, uu, uu, uu, uu, uu, uu, uu, uu, uu, uu, uu, uu, uu] (by kernel_rfl) (by kernel_rfl) ?_
  intro β a h
  refine sym_seq ?_
  refine St.region h [.inl (.agg (ck b)), .inr (0, 0), .inr (1, 0), .inl (.bool false), uu, uu, uu, uu, uu, uu, uu, uu, uu, uu, uu, uu, uu, uu, uu, uu, uu, uu, uu, uu, uu, uu, uu, uu, uu, uu, uu, uu, uu, uu, uu, uu, uu, uu, uu, uu, uu, uu, uu, uu, uu, uu] [(ck b, 23), (ces [0, 0], 31)] [(ck b, 23), (ces [0, 0], 31)] [#[], #[]] [⟨some 0, none, none, false⟩, ⟨some 1, none, none, false⟩, nn] (by kernel_rfl) (by kernel_rfl) (by kernel_rfl) (by kernel_rfl) (by kernel_rfl) (by kernel_rfl) (by kernel_rfl) (by kernel_rfl) ?_ ?_
  · refine ok_cons (ok_box (b := 0) (u := .agg (ck b)) (bxK (b := b)) rfl (by kernel_rfl) rfl (by kernel_rfl) (by kernel_rfl) (by kernel_rfl) (by kernel_rfl)) ?_
    refine ok_cons (ok_alloc (b := 1) alP rfl (by kernel_rfl) rfl (by kernel_rfl) (by kernel_rfl)) ?_
    refine ok_cons (ok_mv (Or.inr rfl) (by kernel_rfl) rfl (by kernel_rfl) (by kernel_rfl)) ?_
    exact ok_nil
  clear h; intro β a w h
  refine sym_then ?_
  refine sym_seq ?_
  refine St.region h [.inl (.agg (ck b)), .inr (0, 0), .inr (1, 0), .inl (.bool false), .inl (.bool false), uu, uu, uu, .inr (0, 31), .inl (.int .u8 (((b 31) : Nat) : Int)), .inl (.int .u8 ((((b 31) / 128 * 128) : Nat) : Int)), .inl (.bool false), uu, uu, uu, uu, uu, uu, uu, uu, uu, uu, uu, uu, uu, uu, uu, uu, uu, uu, uu, uu, uu, uu, uu, uu, uu, uu, uu, uu, uu, uu, uu, uu, uu, uu] [(ck b, 23), (ces [0, 0], 31)] [(ck b, 23), (ces [0, 0], 31)] [#[], #[]] [nn, ⟨none, none, some 0, false⟩, nn, nn, nn] (by kernel_rfl) (by kernel_rfl) (by kernel_rfl) (by kernel_rfl) (by kernel_rfl) (by kernel_rfl) (by kernel_rfl) (by kernel_rfl) ?_ ?_
  · refine ok_cons (ok_iaddr (b := 0) (off := 0) (off' := 31) (u := .int .i64 ((31 : Nat) : Int)) (ixK (i := 31) (by omega)) rfl (by kernel_rfl) rfl (by kernel_rfl) (by kernel_rfl) (by kernel_rfl) (by kernel_rfl)) ?_
    refine ok_cons (ok_load (b := 0) (off := 31) (c := ck b) (v := .int .u8 (((b 31) : Nat) : Int)) (ld_k (F := b) (i := 31) (t0 := 23) (by omega)) rfl (by kernel_rfl) rfl (by kernel_rfl) (by kernel_rfl) (by kernel_rfl)) ?_
    refine ok_cons (ok_bin (x1 := .int .u8 (((b 31) : Nat) : Int)) (u1 := .int .u8 ((128 : Nat) : Int)) (v := .int .u8 ((((b 31) / 128 * 128) : Nat) : Int)) (and_b (m := (b 31)) (by omega)) rfl (by kernel_rfl) rfl (by kernel_rfl) (by kernel_rfl) (by kernel_rfl) (by kernel_rfl) (by kernel_rfl)) ?_
    refine ok_cons (ok_bin (x1 := .int .u8 ((((b 31) / 128 * 128) : Nat) : Int)) (u1 := .int .u8 ((0 : Nat) : Int)) (v := .bool false) (ne_b (m := ((b 31) / 128 * 128)) (n := 0) (decide_eq_false (by omega))) rfl (by kernel_rfl) rfl (by kernel_rfl) (by kernel_rfl) (by kernel_rfl) (by kernel_rfl) (by kernel_rfl)) ?_
    refine ok_cons (ok_mv (Or.inr rfl) (by kernel_rfl) rfl (by kernel_rfl) (by kernel_rfl)) ?_
    exact ok_nil
  clear h; intro β a w h
  refine sym_then ?_
  refine sym_seq ?_
  refine St.region h [.inl (.agg (ck b)), .inr (0, 0), .inr (1, 0), .inl (.bool false), .inl (.bool false), uu, uu, uu, .inr (0, 31), .inl (.int .u8 (((b 31) : Nat) : Int)), .inl (.int .u8 ((((b 31) / 128 * 128) : Nat) : Int)), .inl (.bool false), .inr (0, 31), .inl (.int .u8 (((b 31) : Nat) : Int)), .inl (.int .u8 ((((b 31) % 128) : Nat) : Int)), .inr (0, 31), uu, uu, uu, uu, uu, uu, uu, uu, uu, uu, uu, uu, uu, uu, uu, uu, uu, uu, uu, uu, uu, uu, uu, uu, uu, uu, uu, uu, uu, uu] [(ck (updN b 31 ((b 31) % 128)), 23), (ces [0, 0], 31)] [(ck b, 23), (ces [0, 0], 31)] [ck (updN b 31 ((b 31) % 128)), #[]] [nn, ⟨none, none, some 0, false⟩, nn, nn, ⟨none, some 0, none, false⟩] (by kernel_rfl) (by kernel_rfl) (by kernel_rfl) (by kernel_rfl) (by kernel_rfl) (by kernel_rfl) (by kernel_rfl) (by kernel_rfl) ?_ ?_
  · refine ok_cons (ok_iaddr (b := 0) (off := 0) (off' := 31) (u := .int .i64 ((31 : Nat) : Int)) (ixK (i := 31) (by omega)) rfl (by kernel_rfl) rfl (by kernel_rfl) (by kernel_rfl) (by kernel_rfl) (by kernel_rfl)) ?_
    refine ok_cons (ok_load (b := 0) (off := 31) (c := ck b) (v := .int .u8 (((b 31) : Nat) : Int)) (ld_k (F := b) (i := 31) (t0 := 23) (by omega)) rfl (by kernel_rfl) rfl (by kernel_rfl) (by kernel_rfl) (by kernel_rfl)) ?_
    refine ok_cons (ok_bin (x1 := .int .u8 (((b 31) : Nat) : Int)) (u1 := .int .u8 ((128 : Nat) : Int)) (v := .int .u8 ((((b 31) % 128) : Nat) : Int)) (an_b (m := (b 31)) (by omega)) rfl (by kernel_rfl) rfl (by kernel_rfl) (by kernel_rfl) (by kernel_rfl) (by kernel_rfl) (by kernel_rfl)) ?_
    refine ok_cons (ok_iaddr (b := 0) (off := 0) (off' := 31) (u := .int .i64 ((31 : Nat) : Int)) (ixK (i := 31) (by omega)) rfl (by kernel_rfl) rfl (by kernel_rfl) (by kernel_rfl) (by kernel_rfl) (by kernel_rfl)) ?_
    refine ok_cons (ok_store (b := 0) (off := 31) (u := .int .u8 ((((b 31) % 128) : Nat) : Int)) (c := ck b) (n := ck (updN b 31 ((b 31) % 128))) (st_k (F := b) (i := 31) (v := ((b 31) % 128)) (t0 := 23) (by omega)) rfl (by kernel_rfl) rfl (by kernel_rfl) (by kernel_rfl) (by kernel_rfl) (by kernel_rfl) (by kernel_rfl)) ?_
    exact ok_nil
  clear h; intro β a w h
  refine sym_then ?_
  refine sym_seq ?_
  refine St.region h [.inl (.agg (ck b)), .inr (0, 0), .inr (1, 0), .inl (.bool false), .inl (.bool false), .inr (2, 0), uu, uu, .inr (0, 31), .inl (.int .u8 (((b 31) : Nat) : Int)), .inl (.int .u8 ((((b 31) / 128 * 128) : Nat) : Int)), .inl (.bool false), .inr (0, 31), .inl (.int .u8 (((b 31) : Nat) : Int)), .inl (.int .u8 ((((b 31) % 128) : Nat) : Int)), .inr (0, 31), .inl (.agg (ck (updN b 31 ((b 31) % 128)))), .inl (el (dig y)), uu, uu, uu, uu, uu, uu, uu, uu, uu, uu, uu, uu, uu, uu, uu, uu, uu, uu, uu, uu, uu, uu, uu, uu, uu, uu, uu, uu] [(ck (updN b 31 ((b 31) % 128)), 23), (ces [0, 0], 31), (ce y, 29)] [(ck (updN b 31 ((b 31) % 128)), 23), (ces [0, 0], 31), (ce 0, 29)] [#[], #[], ce y] [⟨none, none, some 0, false⟩, nn, ⟨some 2, none, none, false⟩, ⟨none, some 2, none, false⟩] (by kernel_rfl) (by kernel_rfl) (by kernel_rfl) (by kernel_rfl) (by kernel_rfl) (by kernel_rfl) (by kernel_rfl) (by kernel_rfl) ?_ ?_
  · refine ok_cons (ok_load (b := 0) (off := 0) (c := ck (updN b 31 ((b 31) % 128))) (v := .agg (ck (updN b 31 ((b 31) % 128)))) (ldK (b := (updN b 31 ((b 31) % 128))) 23) rfl (by kernel_rfl) rfl (by kernel_rfl) (by kernel_rfl) (by kernel_rfl)) ?_
    refine ok_cons (ok_call (vs := #[.agg (ck (updN b 31 ((b 31) % 128)))]) (R := el (dig y)) cO rfl (by kernel_rfl) rfl (by kernel_rfl) (by kernel_rfl) (by kernel_rfl) (fun w => by kernel_rfl)) ?_
    refine ok_cons (ok_alloc (b := 2) alE rfl (by kernel_rfl) rfl (by kernel_rfl) (by kernel_rfl)) ?_
    refine ok_cons (ok_store (b := 2) (off := 0) (u := el (dig y)) (c := ce 0) (n := ce y) (stE (n := y) (c := ce 0) 29 (ce_size _)) rfl (by kernel_rfl) rfl (by kernel_rfl) (by kernel_rfl) (by kernel_rfl) (by kernel_rfl) (by kernel_rfl)) ?_
    exact ok_nil
  clear h; intro β a w h
  refine sym_then ?_
  refine sym_seq ?_
  refine sym_seq ?_
  refine St.region h [.inl (.agg (ck b)), .inr (0, 0), .inr (1, 0), .inl (.bool false), .inl (.bool false), .inr (2, 0), uu, uu, .inr (0, 31), .inl (.int .u8 (((b 31) : Nat) : Int)), .inl (.int .u8 ((((b 31) / 128 * 128) : Nat) : Int)), .inl (.bool false), .inr (0, 31), .inl (.int .u8 (((b 31) : Nat) : Int)), .inl (.int .u8 ((((b 31) % 128) : Nat) : Int)), .inr (0, 31), .inl (.agg (ck (updN b 31 ((b 31) % 128)))), .inl (el (dig y)), .inl (el (dig y)), .inl (.agg (ck (byt (dig y)))), .inl (.agg (ck (updN b 31 ((b 31) % 128)))), .inl (.bool false), uu, uu, uu, uu, uu, uu, uu, uu, uu, uu, uu, uu, uu, uu, uu, uu, uu, uu, uu, uu, uu, uu, uu, uu] [(ck (updN b 31 ((b 31) % 128)), 23), (ces [0, 0], 31), (ce y, 29)] [(ck (updN b 31 ((b 31) % 128)), 23), (ces [0, 0], 31), (ce y, 29)] [#[], #[], #[]] [⟨none, none, some 2, false⟩, nn, ⟨none, none, some 0, false⟩, nn] (by kernel_rfl) (by kernel_rfl) (by kernel_rfl) (by kernel_rfl) (by kernel_rfl) (by kernel_rfl) (by kernel_rfl) (by kernel_rfl) ?_ ?_
  · refine ok_cons (ok_load (b := 2) (off := 0) (c := ce y) (v := el (dig y)) (ldE (n := y) 29) rfl (by kernel_rfl) rfl (by kernel_rfl) (by kernel_rfl) (by kernel_rfl)) ?_
    refine ok_cons (ok_call (vs := #[el (dig y)]) (R := .agg (ck (byt (dig y)))) (fun w => key_d hy w) rfl (by kernel_rfl) rfl (by kernel_rfl) (by kernel_rfl) (by kernel_rfl) (fun w => by kernel_rfl)) ?_
    refine ok_cons (ok_load (b := 0) (off := 0) (c := ck (updN b 31 ((b 31) % 128))) (v := .agg (ck (updN b 31 ((b 31) % 128)))) (ldK (b := (updN b 31 ((b 31) % 128))) 23) rfl (by kernel_rfl) rfl (by kernel_rfl) (by kernel_rfl) (by kernel_rfl)) ?_
    refine ok_cons (ok_bin (x1 := .agg (ck (byt (dig y)))) (u1 := .agg (ck (updN b 31 ((b 31) % 128)))) (v := .bool false) (neK_f (F := (byt (dig y))) (G := (updN b 31 ((b 31) % 128))) hkey) rfl (by kernel_rfl) rfl (by kernel_rfl) (by kernel_rfl) (by kernel_rfl) (by kernel_rfl) (by kernel_rfl)) ?_
    exact ok_nil
  clear h; intro β a w h
  refine sym_then ?_
  refine sym_cond_f h (by kernel_rfl) (by kernel_rfl) ?_
  refine wp_skip ?_
  refine sym_then ?_
  refine sym_seq ?_
  refine St.region h [.inl (.agg (ck b)), .inr (0, 0), .inr (1, 0), .inl (.bool false), .inl (.bool false), .inr (2, 0), .inr (3, 0), .inl (.bool false), .inr (0, 31), .inl (.int .u8 (((b 31) : Nat) : Int)), .inl (.int .u8 ((((b 31) / 128 * 128) : Nat) : Int)), .inl (.bool false), .inr (0, 31), .inl (.int .u8 (((b 31) : Nat) : Int)), .inl (.int .u8 ((((b 31) % 128) : Nat) : Int)), .inr (0, 31), .inl (.agg (ck (updN b 31 ((b 31) % 128)))), .inl (el (dig y)), .inl (el (dig y)), .inl (.agg (ck (byt (dig y)))), .inl (.agg (ck (updN b 31 ((b 31) % 128)))), .inl (.bool false), uu, .inl (.tuple #[el (dig r), .bool false]), .inl (el (dig y)), .inl (.tuple #[el (dig r), .bool false]), .inl (el (dig r)), .inl (.bool false), uu, uu, uu, uu, uu, uu, uu, uu, uu, uu, uu, uu, uu, uu, uu, uu, uu, uu] [(ck (updN b 31 ((b 31) % 128)), 23), (ces [0, 0], 31), (ce y, 29), (ce r, 29)] [(ck (updN b 31 ((b 31) % 128)), 23), (ces [0, 0], 31), (ce y, 29), (ce 0, 29)] [#[], #[], #[], ce r] [⟨none, none, some 2, false⟩, nn, nn, nn, nn, ⟨some 3, none, none, false⟩, ⟨none, some 3, none, false⟩, nn] (by kernel_rfl) (by kernel_rfl) (by kernel_rfl) (by kernel_rfl) (by kernel_rfl) (by kernel_rfl) (by kernel_rfl) (by kernel_rfl) ?_ ?_
  · refine ok_cons (ok_load (b := 2) (off := 0) (c := ce y) (v := el (dig y)) (ldE (n := y) 29) rfl (by kernel_rfl) rfl (by kernel_rfl) (by kernel_rfl) (by kernel_rfl)) ?_
    refine ok_cons (ok_call (vs := #[el (dig y)]) (R := .tuple #[el (dig r), .bool false]) cE rfl (by kernel_rfl) rfl (by kernel_rfl) (by kernel_rfl) (by kernel_rfl) (fun w => by kernel_rfl)) ?_
    refine ok_cons (ok_mv (Or.inl rfl) (by kernel_rfl) rfl (by kernel_rfl) (by kernel_rfl)) ?_
    refine ok_cons (ok_ext (x1 := .tuple #[el (dig r), .bool false]) (v := el (dig r)) (fun w => by kernel_rfl) rfl (by kernel_rfl) rfl (by kernel_rfl) (by kernel_rfl) (by kernel_rfl)) ?_
    refine ok_cons (ok_ext (x1 := .tuple #[el (dig r), .bool false]) (v := .bool false) (fun w => by kernel_rfl) rfl (by kernel_rfl) rfl (by kernel_rfl) (by kernel_rfl) (by kernel_rfl)) ?_
    refine ok_cons (ok_alloc (b := 3) alE rfl (by kernel_rfl) rfl (by kernel_rfl) (by kernel_rfl)) ?_
    refine ok_cons (ok_store (b := 3) (off := 0) (u := el (dig r)) (c := ce 0) (n := ce r) (stE (n := r) (c := ce 0) 29 (ce_size _)) rfl (by kernel_rfl) rfl (by kernel_rfl) (by kernel_rfl) (by kernel_rfl) (by kernel_rfl) (by kernel_rfl)) ?_
    refine ok_cons (ok_mv (Or.inr rfl) (by kernel_rfl) rfl (by kernel_rfl) (by kernel_rfl)) ?_
    exact ok_nil
  clear h; intro β a w h
  refine sym_then ?_
  refine sym_seq ?_
  refine sym_seq ?_
  refine St.region h [.inl (.agg (ck b)), .inr (0, 0), .inr (1, 0), .inl (.bool false), .inl (.bool false), .inr (2, 0), .inr (3, 0), .inl (.bool false), .inr (0, 31), .inl (.int .u8 (((b 31) : Nat) : Int)), .inl (.int .u8 ((((b 31) / 128 * 128) : Nat) : Int)), .inl (.bool false), .inr (0, 31), .inl (.int .u8 (((b 31) : Nat) : Int)), .inl (.int .u8 ((((b 31) % 128) : Nat) : Int)), .inr (0, 31), .inl (.agg (ck (updN b 31 ((b 31) % 128)))), .inl (el (dig y)), .inl (el (dig y)), .inl (.agg (ck (byt (dig y)))), .inl (.agg (ck (updN b 31 ((b 31) % 128)))), .inl (.bool false), uu, .inl (.tuple #[el (dig r), .bool false]), .inl (el (dig y)), .inl (.tuple #[el (dig r), .bool false]), .inl (el (dig r)), .inl (.bool false), .inl (.bool false), .inl (.bool true), .inl (.bool true), uu, uu, uu, uu, uu, uu, .inl (.bool true), uu, uu, uu, uu, uu, uu, uu, uu] [(ck (updN b 31 ((b 31) % 128)), 23), (ces [0, 0], 31), (ce y, 29), (ce r, 29)] [(ck (updN b 31 ((b 31) % 128)), 23), (ces [0, 0], 31), (ce y, 29), (ce r, 29)] [#[], #[], #[], #[]] [nn, nn, nn, nn, nn, nn, nn, nn, nn, nn] (by kernel_rfl) (by kernel_rfl) (by kernel_rfl) (by kernel_rfl) (by kernel_rfl) (by kernel_rfl) (by kernel_rfl) (by kernel_rfl) ?_ ?_
  · refine ok_cons (ok_mv (Or.inl rfl) (by kernel_rfl) rfl (by kernel_rfl) (by kernel_rfl)) ?_
    refine ok_cons (ok_not (b := false) rfl (by kernel_rfl) rfl (by kernel_rfl) (by kernel_rfl) (by kernel_rfl)) ?_
    refine ok_cons (ok_mv (Or.inl rfl) (by kernel_rfl) rfl (by kernel_rfl) (by kernel_rfl)) ?_
    refine ok_cons (ok_skip (by kernel_rfl) rfl (by kernel_rfl)) ?_
    refine ok_cons (ok_skip (by kernel_rfl) rfl (by kernel_rfl)) ?_
    refine ok_cons (ok_skip (by kernel_rfl) rfl (by kernel_rfl)) ?_
    refine ok_cons (ok_skip (by kernel_rfl) rfl (by kernel_rfl)) ?_
    refine ok_cons (ok_skip (by kernel_rfl) rfl (by kernel_rfl)) ?_
    refine ok_cons (ok_skip (by kernel_rfl) rfl (by kernel_rfl)) ?_
    refine ok_cons (ok_pick_t rfl (by kernel_rfl) rfl (by kernel_rfl) (by kernel_rfl) (by kernel_rfl) (by kernel_rfl)) ?_
    exact ok_nil
  clear h; intro β a w h
  refine sym_then ?_
  refine sym_cond_t h (by kernel_rfl) (by kernel_rfl) ?_
  refine sym_seq ?_
  refine St.region h [.inl (.agg (ck b)), .inr (0, 0), .inr (1, 0), .inl (.bool false), .inl (.bool false), .inr (2, 0), .inr (3, 0), .inl (.bool false), .inr (0, 31), .inl (.int .u8 (((b 31) : Nat) : Int)), .inl (.int .u8 ((((b 31) / 128 * 128) : Nat) : Int)), .inl (.bool false), .inr (0, 31), .inl (.int .u8 (((b 31) : Nat) : Int)), .inl (.int .u8 ((((b 31) % 128) : Nat) : Int)), .inr (0, 31), .inl (.agg (ck (updN b 31 ((b 31) % 128)))), .inl (el (dig y)), .inl (el (dig y)), .inl (.agg (ck (byt (dig y)))), .inl (.agg (ck (updN b 31 ((b 31) % 128)))), .inl (.bool false), uu, .inl (.tuple #[el (dig r), .bool false]), .inl (el (dig y)), .inl (.tuple #[el (dig r), .bool false]), .inl (el (dig r)), .inl (.bool false), .inl (.bool false), .inl (.bool true), .inl (.bool true), uu, uu, uu, uu, uu, uu, .inl (.bool true), .inl (.agg (ces [0, 0])), uu, uu, uu, uu, uu, uu, uu] [(ck (updN b 31 ((b 31) % 128)), 23), (ces [0, 0], 31), (ce y, 29), (ce r, 29)] [(ck (updN b 31 ((b 31) % 128)), 23), (ces [0, 0], 31), (ce y, 29), (ce r, 29)] [#[], ces [0, 0], #[], #[]] [nn, ⟨none, some 1, none, false⟩, nn] (by kernel_rfl) (by kernel_rfl) (by kernel_rfl) (by kernel_rfl) (by kernel_rfl) (by kernel_rfl) (by kernel_rfl) (by kernel_rfl) ?_ ?_
  · refine ok_cons (ok_build (vs := #[]) (v := .agg (ces [0, 0])) bdP0 rfl (by kernel_rfl) rfl (by kernel_rfl) (by kernel_rfl) (by kernel_rfl)) ?_
    refine ok_cons (ok_store (b := 1) (off := 0) (u := .agg (ces [0, 0])) (c := ces [0, 0]) (n := ces [0, 0]) (stP (a := 0) (b := 0) (c := ces [0, 0]) 31 (by rw [ces_size]; rfl)) rfl (by kernel_rfl) rfl (by kernel_rfl) (by kernel_rfl) (by kernel_rfl) (by kernel_rfl) (by kernel_rfl)) ?_
    refine ok_cons (ok_mv (Or.inr rfl) (by kernel_rfl) rfl (by kernel_rfl) (by kernel_rfl)) ?_
    exact ok_nil
  clear h; intro β a w h
  refine sym_then ?_
  refine wp_ret ?_
  refine then_ret ?_
  exact sym_ret2 (b := 1) (t0 := 31) (c := ces [0, 0]) h Try.results10 (by kernel_rfl) (by kernel_rfl) (by kernel_rfl) (by kernel_rfl) (by kernel_rfl) Try.underlying31 rfl (by rw [ces_size]; kernel_rfl) (fun hb => ⟨rfl, hb⟩)

set_option maxHeartbeats 4000000 in
theorem of_z {b : Nat → Nat} (hb : ∀ i, b i < 256) {y r : Nat} (hy : y < pp) (cO : ∀ w, Calls Try.prog 28 #[.agg (ck (updN b 31 (b 31 % 128)))] w fun e w' => e = .returned (el (dig y)) ∧ Below w.heap.size w w') (hkey : ∀ i, i < 32 → byt (dig y) i = (updN b 31 (b 31 % 128)) i) (cE : ∀ w, Calls Try.prog 30 #[el (dig y)] w fun e w' => e = .returned (.tuple #[el (dig r), .bool true]) ∧ Below w.heap.size w w') (hr : r < pp) (hz : r = 0) (hod : 128 ≤ b 31) (W0 : World) : Calls Try.prog 10 #[.agg (ck b)] W0 fun e w' => e = .returned (.tuple #[.agg (ces [0, 0]), .bool false]) ∧ Below W0.heap.size W0 w' := by
  have g1 := hb 31
  refine sym_enter Try.func10 Try.ntmps10 rfl [.inl (.agg (ck b)), uu, uu, uu, uu, uu, uu, uu, uu, uu, uu, uu, uu, uu, uu, uu, uu, uu, uu, uu, uu, uu, uu, uu, uu, uu, uu, uu, uu, uu, uu, uu, uu, uu, uu, uu, uu, uu, uu, uu, uu, uu, uu, uu, uu, uu] (by kernel_rfl) (by kernel_rfl) ?_
  intro β a h
  refine sym_seq ?_
  refine St.region h [.inl (.agg (ck b)), .inr (0, 0), .inr (1, 0), .inl (.bool false), uu, uu, uu, uu, uu, uu, uu, uu, uu, uu, uu, uu, uu, uu, uu, uu, uu, uu, uu, uu, uu, uu, uu, uu, uu, uu, uu, uu, uu, uu, uu, uu, uu, uu, uu, uu, uu, uu, uu, uu, uu, uu] [(ck b, 23), (ces [0, 0], 31)] [(ck b, 23), (ces [0, 0], 31)] [#[], #[]] [⟨some 0, none, none, false⟩, ⟨some 1, none, none, false⟩, nn] (by kernel_rfl) (by kernel_rfl) (by kernel_rfl) (by kernel_rfl) (by kernel_rfl) (by kernel_rfl) (by kernel_rfl) (by kernel_rfl) ?_ ?_
  · refine ok_cons (ok_box (b := 0) (u := .agg (ck b)) (bxK (b := b)) rfl (by kernel_rfl) rfl (by kernel_rfl) (by kernel_rfl) (by kernel_rfl) (by kernel_rfl)) ?_
    refine ok_cons (ok_alloc (b := 1) alP rfl (by kernel_rfl) rfl (by kernel_rfl) (by kernel_rfl)) ?_
    refine ok_cons (ok_mv (Or.inr rfl) (by kernel_rfl) rfl (by kernel_rfl) (by kernel_rfl)) ?_
    exact ok_nil
  clear h; intro β a w h
  refine sym_then ?_
  refine sym_seq ?_
  refine St.region h [.inl (.agg (ck b)), .inr (0, 0), .inr (1, 0), .inl (.bool false), .inl (.bool true), uu, uu, uu, .inr (0, 31), .inl (.int .u8 (((b 31) : Nat) : Int)), .inl (.int .u8 ((((b 31) / 128 * 128) : Nat) : Int)), .inl (.bool true), uu, uu, uu, uu, uu, uu, uu, uu, uu, uu, uu, uu, uu, uu, uu, uu, uu, uu, uu, uu, uu, uu, uu, uu, uu, uu, uu, uu, uu, uu, uu, uu, uu, uu] [(ck b, 23), (ces [0, 0], 31)] [(ck b, 23), (ces [0, 0], 31)] [#[], #[]] [nn, ⟨none, none, some 0, false⟩, nn, nn, nn] (by kernel_rfl) (by kernel_rfl) (by kernel_rfl) (by kernel_rfl) (by kernel_rfl) (by kernel_rfl) (by kernel_rfl) (by kernel_rfl) ?_ ?_
  · refine ok_cons (ok_iaddr (b := 0) (off := 0) (off' := 31) (u := .int .i64 ((31 : Nat) : Int)) (ixK (i := 31) (by omega)) rfl (by kernel_rfl) rfl (by kernel_rfl) (by kernel_rfl) (by kernel_rfl) (by kernel_rfl)) ?_
    refine ok_cons (ok_load (b := 0) (off := 31) (c := ck b) (v := .int .u8 (((b 31) : Nat) : Int)) (ld_k (F := b) (i := 31) (t0 := 23) (by omega)) rfl (by kernel_rfl) rfl (by kernel_rfl) (by kernel_rfl) (by kernel_rfl)) ?_
    refine ok_cons (ok_bin (x1 := .int .u8 (((b 31) : Nat) : Int)) (u1 := .int .u8 ((128 : Nat) : Int)) (v := .int .u8 ((((b 31) / 128 * 128) : Nat) : Int)) (and_b (m := (b 31)) (by omega)) rfl (by kernel_rfl) rfl (by kernel_rfl) (by kernel_rfl) (by kernel_rfl) (by kernel_rfl) (by kernel_rfl)) ?_
    refine ok_cons (ok_bin (x1 := .int .u8 ((((b 31) / 128 * 128) : Nat) : Int)) (u1 := .int .u8 ((0 : Nat) : Int)) (v := .bool true) (ne_b (m := ((b 31) / 128 * 128)) (n := 0) (decide_eq_true (by omega))) rfl (by kernel_rfl) rfl (by kernel_rfl) (by kernel_rfl) (by kernel_rfl) (by kernel_rfl) (by kernel_rfl)) ?_
    refine ok_cons (ok_mv (Or.inr rfl) (by kernel_rfl) rfl (by kernel_rfl) (by kernel_rfl)) ?_
    exact ok_nil
  clear h; intro β a w h
  refine sym_then ?_
  refine sym_seq ?_
  refine St.region h [.inl (.agg (ck b)), .inr (0, 0), .inr (1, 0), .inl (.bool false), .inl (.bool true), uu, uu, uu, .inr (0, 31), .inl (.int .u8 (((b 31) : Nat) : Int)), .inl (.int .u8 ((((b 31) / 128 * 128) : Nat) : Int)), .inl (.bool true), .inr (0, 31), .inl (.int .u8 (((b 31) : Nat) : Int)), .inl (.int .u8 ((((b 31) % 128) : Nat) : Int)), .inr (0, 31), uu, uu, uu, uu, uu, uu, uu, uu, uu, uu, uu, uu, uu, uu, uu, uu, uu, uu, uu, uu, uu, uu, uu, uu, uu, uu, uu, uu, uu, uu] [(ck (updN b 31 ((b 31) % 128)), 23), (ces [0, 0], 31)] [(ck b, 23), (ces [0, 0], 31)] [ck (updN b 31 ((b 31) % 128)), #[]] [nn, ⟨none, none, some 0, false⟩, nn, nn, ⟨none, some 0, none, false⟩] (by kernel_rfl) (by kernel_rfl) (by kernel_rfl) (by kernel_rfl) (by kernel_rfl) (by kernel_rfl) (by kernel_rfl) (by kernel_rfl) ?_ ?_
  · refine ok_cons (ok_iaddr (b := 0) (off := 0) (off' := 31) (u := .int .i64 ((31 : Nat) : Int)) (ixK (i := 31) (by omega)) rfl (by kernel_rfl) rfl (by kernel_rfl) (by kernel_rfl) (by kernel_rfl) (by kernel_rfl)) ?_
    refine ok_cons (ok_load (b := 0) (off := 31) (c := ck b) (v := .int .u8 (((b 31) : Nat) : Int)) (ld_k (F := b) (i := 31) (t0 := 23) (by omega)) rfl (by kernel_rfl) rfl (by kernel_rfl) (by kernel_rfl) (by kernel_rfl)) ?_
    refine ok_cons (ok_bin (x1 := .int .u8 (((b 31) : Nat) : Int)) (u1 := .int .u8 ((128 : Nat) : Int)) (v := .int .u8 ((((b 31) % 128) : Nat) : Int)) (an_b (m := (b 31)) (by omega)) rfl (by kernel_rfl) rfl (by kernel_rfl) (by kernel_rfl) (by kernel_rfl) (by kernel_rfl) (by kernel_rfl)) ?_
    refine ok_cons (ok_iaddr (b := 0) (off := 0) (off' := 31) (u := .int .i64 ((31 : Nat) : Int)) (ixK (i := 31) (by omega)) rfl (by kernel_rfl) rfl (by kernel_rfl) (by kernel_rfl) (by kernel_rfl) (by kernel_rfl)) ?_
    refine ok_cons (ok_store (b := 0) (off := 31) (u := .int .u8 ((((b 31) % 128) : Nat) : Int)) (c := ck b) (n := ck (updN b 31 ((b 31) % 128))) (st_k (F := b) (i := 31) (v := ((b 31) % 128)) (t0 := 23) (by omega)) rfl (by kernel_rfl) rfl (by kernel_rfl) (by kernel_rfl) (by kernel_rfl) (by kernel_rfl) (by kernel_rfl)) ?_
    exact ok_nil
  clear h; intro β a w h
  refine sym_then ?_
  refine sym_seq ?_
  refine St.region h [.inl (.agg (ck b)), .inr (0, 0), .inr (1, 0), .inl (.bool false), .inl (.bool true), .inr (2, 0), uu, uu, .inr (0, 31), .inl (.int .u8 (((b 31) : Nat) : Int)), .inl (.int .u8 ((((b 31) / 128 * 128) : Nat) : Int)), .inl (.bool true), .inr (0, 31), .inl (.int .u8 (((b 31) : Nat) : Int)), .inl (.int .u8 ((((b 31) % 128) : Nat) : Int)), .inr (0, 31), .inl (.agg (ck (updN b 31 ((b 31) % 128)))), .inl (el (dig y)), uu, uu, uu, uu, uu, uu, uu, uu, uu, uu, uu, uu, uu, uu, uu, uu, uu, uu, uu, uu, uu, uu, uu, uu, uu, uu, uu, uu] [(ck (updN b 31 ((b 31) % 128)), 23), (ces [0, 0], 31), (ce y, 29)] [(ck (updN b 31 ((b 31) % 128)), 23), (ces [0, 0], 31), (ce 0, 29)] [#[], #[], ce y] [⟨none, none, some 0, false⟩, nn, ⟨some 2, none, none, false⟩, ⟨none, some 2, none, false⟩] (by kernel_rfl) (by kernel_rfl) (by kernel_rfl) (by kernel_rfl) (by kernel_rfl) (by kernel_rfl) (by kernel_rfl) (by kernel_rfl) ?_ ?_
  · refine ok_cons (ok_load (b := 0) (off := 0) (c := ck (updN b 31 ((b 31) % 128))) (v := .agg (ck (updN b 31 ((b 31) % 128)))) (ldK (b := (updN b 31 ((b 31) % 128))) 23) rfl (by kernel_rfl) rfl (by kernel_rfl) (by kernel_rfl) (by kernel_rfl)) ?_
    refine ok_cons (ok_call (vs := #[.agg (ck (updN b 31 ((b 31) % 128)))]) (R := el (dig y)) cO rfl (by kernel_rfl) rfl (by kernel_rfl) (by kernel_rfl) (by kernel_rfl) (fun w => by kernel_rfl)) ?_
    refine ok_cons (ok_alloc (b := 2) alE rfl (by kernel_rfl) rfl (by kernel_rfl) (by kernel_rfl)) ?_
    refine ok_cons (ok_store (b := 2) (off := 0) (u := el (dig y)) (c := ce 0) (n := ce y) (stE (n := y) (c := ce 0) 29 (ce_size _)) rfl (by kernel_rfl) rfl (by kernel_rfl) (by kernel_rfl) (by kernel_rfl) (by kernel_rfl) (by kernel_rfl)) ?_
    exact ok_nil
  clear h; intro β a w h
  refine sym_then ?_
  refine sym_seq ?_
  refine sym_seq ?_
  refine St.region h [.inl (.agg (ck b)), .inr (0, 0), .inr (1, 0), .inl (.bool false), .inl (.bool true), .inr (2, 0), uu, uu, .inr (0, 31), .inl (.int .u8 (((b 31) : Nat) : Int)), .inl (.int .u8 ((((b 31) / 128 * 128) : Nat) : Int)), .inl (.bool true), .inr (0, 31), .inl (.int .u8 (((b 31) : Nat) : Int)), .inl (.int .u8 ((((b 31) % 128) : Nat) : Int)), .inr (0, 31), .inl (.agg (ck (updN b 31 ((b 31) % 128)))), .inl (el (dig y)), .inl (el (dig y)), .inl (.agg (ck (byt (dig y)))), .inl (.agg (ck (updN b 31 ((b 31) % 128)))), .inl (.bool false), uu, uu, uu, uu, uu, uu, uu, uu, uu, uu, uu, uu, uu, uu, uu, uu, uu, uu, uu, uu, uu, uu, uu, uu] [(ck (updN b 31 ((b 31) % 128)), 23), (ces [0, 0], 31), (ce y, 29)] [(ck (updN b 31 ((b 31) % 128)), 23), (ces [0, 0], 31), (ce y, 29)] [#[], #[], #[]] [⟨none, none, some 2, false⟩, nn, ⟨none, none, some 0, false⟩, nn] (by kernel_rfl) (by kernel_rfl) (by kernel_rfl) (by kernel_rfl) (by kernel_rfl) (by kernel_rfl) (by kernel_rfl) (by kernel_rfl) ?_ ?_
  · refine ok_cons (ok_load (b := 2) (off := 0) (c := ce y) (v := el (dig y)) (ldE (n := y) 29) rfl (by kernel_rfl) rfl (by kernel_rfl) (by kernel_rfl) (by kernel_rfl)) ?_
    refine ok_cons (ok_call (vs := #[el (dig y)]) (R := .agg (ck (byt (dig y)))) (fun w => key_d hy w) rfl (by kernel_rfl) rfl (by kernel_rfl) (by kernel_rfl) (by kernel_rfl) (fun w => by kernel_rfl)) ?_
    refine ok_cons (ok_load (b := 0) (off := 0) (c := ck (updN b 31 ((b 31) % 128))) (v := .agg (ck (updN b 31 ((b 31) % 128)))) (ldK (b := (updN b 31 ((b 31) % 128))) 23) rfl (by kernel_rfl) rfl (by kernel_rfl) (by kernel_rfl) (by kernel_rfl)) ?_
    refine ok_cons (ok_bin (x1 := .agg (ck (byt (dig y)))) (u1 := .agg (ck (updN b 31 ((b 31) % 128)))) (v := .bool false) (neK_f (F := (byt (dig y))) (G := (updN b 31 ((b 31) % 128))) hkey) rfl (by kernel_rfl) rfl (by kernel_rfl) (by kernel_rfl) (by kernel_rfl) (by kernel_rfl) (by kernel_rfl)) ?_
    exact ok_nil
  clear h; intro β a w h
  refine sym_then ?_
  refine sym_cond_f h (by kernel_rfl) (by kernel_rfl) ?_
  refine wp_skip ?_
  refine sym_then ?_
  refine sym_seq ?_
  refine St.region h [.inl (.agg (ck b)), .inr (0, 0), .inr (1, 0), .inl (.bool false), .inl (.bool true), .inr (2, 0), .inr (3, 0), .inl (.bool true), .inr (0, 31), .inl (.int .u8 (((b 31) : Nat) : Int)), .inl (.int .u8 ((((b 31) / 128 * 128) : Nat) : Int)), .inl (.bool true), .inr (0, 31), .inl (.int .u8 (((b 31) : Nat) : Int)), .inl (.int .u8 ((((b 31) % 128) : Nat) : Int)), .inr (0, 31), .inl (.agg (ck (updN b 31 ((b 31) % 128)))), .inl (el (dig y)), .inl (el (dig y)), .inl (.agg (ck (byt (dig y)))), .inl (.agg (ck (updN b 31 ((b 31) % 128)))), .inl (.bool false), uu, .inl (.tuple #[el (dig r), .bool true]), .inl (el (dig y)), .inl (.tuple #[el (dig r), .bool true]), .inl (el (dig r)), .inl (.bool true), uu, uu, uu, uu, uu, uu, uu, uu, uu, uu, uu, uu, uu, uu, uu, uu, uu, uu] [(ck (updN b 31 ((b 31) % 128)), 23), (ces [0, 0], 31), (ce y, 29), (ce r, 29)] [(ck (updN b 31 ((b 31) % 128)), 23), (ces [0, 0], 31), (ce y, 29), (ce 0, 29)] [#[], #[], #[], ce r] [⟨none, none, some 2, false⟩, nn, nn, nn, nn, ⟨some 3, none, none, false⟩, ⟨none, some 3, none, false⟩, nn] (by kernel_rfl) (by kernel_rfl) (by kernel_rfl) (by kernel_rfl) (by kernel_rfl) (by kernel_rfl) (by kernel_rfl) (by kernel_rfl) ?_ ?_
  · refine ok_cons (ok_load (b := 2) (off := 0) (c := ce y) (v := el (dig y)) (ldE (n := y) 29) rfl (by kernel_rfl) rfl (by kernel_rfl) (by kernel_rfl) (by kernel_rfl)) ?_
    refine ok_cons (ok_call (vs := #[el (dig y)]) (R := .tuple #[el (dig r), .bool true]) cE rfl (by kernel_rfl) rfl (by kernel_rfl) (by kernel_rfl) (by kernel_rfl) (fun w => by kernel_rfl)) ?_
    refine ok_cons (ok_mv (Or.inl rfl) (by kernel_rfl) rfl (by kernel_rfl) (by kernel_rfl)) ?_
    refine ok_cons (ok_ext (x1 := .tuple #[el (dig r), .bool true]) (v := el (dig r)) (fun w => by kernel_rfl) rfl (by kernel_rfl) rfl (by kernel_rfl) (by kernel_rfl) (by kernel_rfl)) ?_
    refine ok_cons (ok_ext (x1 := .tuple #[el (dig r), .bool true]) (v := .bool true) (fun w => by kernel_rfl) rfl (by kernel_rfl) rfl (by kernel_rfl) (by kernel_rfl) (by kernel_rfl)) ?_
    refine ok_cons (ok_alloc (b := 3) alE rfl (by kernel_rfl) rfl (by kernel_rfl) (by kernel_rfl)) ?_
    refine ok_cons (ok_store (b := 3) (off := 0) (u := el (dig r)) (c := ce 0) (n := ce r) (stE (n := r) (c := ce 0) 29 (ce_size _)) rfl (by kernel_rfl) rfl (by kernel_rfl) (by kernel_rfl) (by kernel_rfl) (by kernel_rfl) (by kernel_rfl)) ?_
    refine ok_cons (ok_mv (Or.inr rfl) (by kernel_rfl) rfl (by kernel_rfl) (by kernel_rfl)) ?_
    exact ok_nil
  clear h; intro β a w h
  refine sym_then ?_
  refine sym_seq ?_
  refine sym_seq ?_
  refine St.region h [.inl (.agg (ck b)), .inr (0, 0), .inr (1, 0), .inl (.bool false), .inl (.bool true), .inr (2, 0), .inr (3, 0), .inl (.bool true), .inr (0, 31), .inl (.int .u8 (((b 31) : Nat) : Int)), .inl (.int .u8 ((((b 31) / 128 * 128) : Nat) : Int)), .inl (.bool true), .inr (0, 31), .inl (.int .u8 (((b 31) : Nat) : Int)), .inl (.int .u8 ((((b 31) % 128) : Nat) : Int)), .inr (0, 31), .inl (.agg (ck (updN b 31 ((b 31) % 128)))), .inl (el (dig y)), .inl (el (dig y)), .inl (.agg (ck (byt (dig y)))), .inl (.agg (ck (updN b 31 ((b 31) % 128)))), .inl (.bool false), uu, .inl (.tuple #[el (dig r), .bool true]), .inl (el (dig y)), .inl (.tuple #[el (dig r), .bool true]), .inl (el (dig r)), .inl (.bool true), .inl (.bool true), .inl (.bool false), .inl (.bool false), .inl (.bool true), .inl (.bool true), .inl (el (dig r)), .inl (el (dig 0)), .inl (.bool true), .inl (.bool true), .inl (.bool true), uu, uu, uu, uu, uu, uu, uu, uu] [(ck (updN b 31 ((b 31) % 128)), 23), (ces [0, 0], 31), (ce y, 29), (ce r, 29)] [(ck (updN b 31 ((b 31) % 128)), 23), (ces [0, 0], 31), (ce y, 29), (ce r, 29)] [#[], #[], #[], #[]] [nn, nn, nn, nn, nn, ⟨none, none, some 3, false⟩, nn, nn, nn, nn] (by kernel_rfl) (by kernel_rfl) (by kernel_rfl) (by kernel_rfl) (by kernel_rfl) (by kernel_rfl) (by kernel_rfl) (by kernel_rfl) ?_ ?_
  · refine ok_cons (ok_mv (Or.inl rfl) (by kernel_rfl) rfl (by kernel_rfl) (by kernel_rfl)) ?_
    refine ok_cons (ok_not (b := true) rfl (by kernel_rfl) rfl (by kernel_rfl) (by kernel_rfl) (by kernel_rfl)) ?_
    refine ok_cons (ok_mv (Or.inl rfl) (by kernel_rfl) rfl (by kernel_rfl) (by kernel_rfl)) ?_
    refine ok_cons (ok_mv (Or.inl rfl) (by kernel_rfl) rfl (by kernel_rfl) (by kernel_rfl)) ?_
    refine ok_cons (ok_mv (Or.inl rfl) (by kernel_rfl) rfl (by kernel_rfl) (by kernel_rfl)) ?_
    refine ok_cons (ok_load (b := 3) (off := 0) (c := ce r) (v := el (dig r)) (ldE (n := r) 29) rfl (by kernel_rfl) rfl (by kernel_rfl) (by kernel_rfl) (by kernel_rfl)) ?_
    refine ok_cons (ok_build (vs := #[]) (v := el (dig 0)) bdE rfl (by kernel_rfl) rfl (by kernel_rfl) (by kernel_rfl) (by kernel_rfl)) ?_
    refine ok_cons (ok_call (vs := #[el (dig r), el (dig 0)]) (R := .bool true) (fun w => is_t hr (by decide +kernel) hz w) rfl (by kernel_rfl) rfl (by kernel_rfl) (by kernel_rfl) (by kernel_rfl) (fun w => by kernel_rfl)) ?_
    refine ok_cons (ok_pick_t rfl (by kernel_rfl) rfl (by kernel_rfl) (by kernel_rfl) (by kernel_rfl) (by kernel_rfl)) ?_
    refine ok_cons (ok_pick_f rfl (by kernel_rfl) rfl (by kernel_rfl) (by kernel_rfl) (by kernel_rfl) (by kernel_rfl)) ?_
    exact ok_nil
  clear h; intro β a w h
  refine sym_then ?_
  refine sym_cond_t h (by kernel_rfl) (by kernel_rfl) ?_
  refine sym_seq ?_
  refine St.region h [.inl (.agg (ck b)), .inr (0, 0), .inr (1, 0), .inl (.bool false), .inl (.bool true), .inr (2, 0), .inr (3, 0), .inl (.bool true), .inr (0, 31), .inl (.int .u8 (((b 31) : Nat) : Int)), .inl (.int .u8 ((((b 31) / 128 * 128) : Nat) : Int)), .inl (.bool true), .inr (0, 31), .inl (.int .u8 (((b 31) : Nat) : Int)), .inl (.int .u8 ((((b 31) % 128) : Nat) : Int)), .inr (0, 31), .inl (.agg (ck (updN b 31 ((b 31) % 128)))), .inl (el (dig y)), .inl (el (dig y)), .inl (.agg (ck (byt (dig y)))), .inl (.agg (ck (updN b 31 ((b 31) % 128)))), .inl (.bool false), uu, .inl (.tuple #[el (dig r), .bool true]), .inl (el (dig y)), .inl (.tuple #[el (dig r), .bool true]), .inl (el (dig r)), .inl (.bool true), .inl (.bool true), .inl (.bool false), .inl (.bool false), .inl (.bool true), .inl (.bool true), .inl (el (dig r)), .inl (el (dig 0)), .inl (.bool true), .inl (.bool true), .inl (.bool true), .inl (.agg (ces [0, 0])), uu, uu, uu, uu, uu, uu, uu] [(ck (updN b 31 ((b 31) % 128)), 23), (ces [0, 0], 31), (ce y, 29), (ce r, 29)] [(ck (updN b 31 ((b 31) % 128)), 23), (ces [0, 0], 31), (ce y, 29), (ce r, 29)] [#[], ces [0, 0], #[], #[]] [nn, ⟨none, some 1, none, false⟩, nn] (by kernel_rfl) (by kernel_rfl) (by kernel_rfl) (by kernel_rfl) (by kernel_rfl) (by kernel_rfl) (by kernel_rfl) (by kernel_rfl) ?_ ?_
  · refine ok_cons (ok_build (vs := #[]) (v := .agg (ces [0, 0])) bdP0 rfl (by kernel_rfl) rfl (by kernel_rfl) (by kernel_rfl) (by kernel_rfl)) ?_
    refine ok_cons (ok_store (b := 1) (off := 0) (u := .agg (ces [0, 0])) (c := ces [0, 0]) (n := ces [0, 0]) (stP (a := 0) (b := 0) (c := ces [0, 0]) 31 (by rw [ces_size]; rfl)) rfl (by kernel_rfl) rfl (by kernel_rfl) (by kernel_rfl) (by kernel_rfl) (by kernel_rfl) (by kernel_rfl)) ?_
    refine ok_cons (ok_mv (Or.inr rfl) (by kernel_rfl) rfl (by kernel_rfl) (by kernel_rfl)) ?_
    exact ok_nil
  clear h; intro β a w h
  refine sym_then ?_
  refine wp_ret ?_
  refine then_ret ?_
  exact sym_ret2 (b := 1) (t0 := 31) (c := ces [0, 0]) h Try.results10 (by kernel_rfl) (by kernel_rfl) (by kernel_rfl) (by kernel_rfl) (by kernel_rfl) Try.underlying31 rfl (by rw [ces_size]; kernel_rfl) (fun hb => ⟨rfl, hb⟩)

set_option maxHeartbeats 4000000 in
theorem of_o {b : Nat → Nat} (hb : ∀ i, b i < 256) {y r : Nat} (hy : y < pp) (cO : ∀ w, Calls Try.prog 28 #[.agg (ck (updN b 31 (b 31 % 128)))] w fun e w' => e = .returned (el (dig y)) ∧ Below w.heap.size w w') (hkey : ∀ i, i < 32 → byt (dig y) i = (updN b 31 (b 31 % 128)) i) (cE : ∀ w, Calls Try.prog 30 #[el (dig y)] w fun e w' => e = .returned (.tuple #[el (dig r), .bool true]) ∧ Below w.heap.size w w') (hr : r < pp) (hz : r ≠ 0) (hod : 128 ≤ b 31) (W0 : World) : Calls Try.prog 10 #[.agg (ck b)] W0 fun e w' => e = .returned (.tuple #[.agg (ces [sb 0 r, sb y 1]), .bool true]) ∧ Below W0.heap.size W0 w' := by
  have g1 := hb 31
  refine sym_enter Try.func10 Try.ntmps10 rfl [.inl (.agg (ck b)), uu, uu, uu, uu, uu, uu, uu, uu, uu, uu, uu, uu, uu, uu, uu, uu, uu, uu, uu, uu, uu, uu, uu, uu, uu, uu, uu, uu, uu, uu, uu, uu, uu, uu, uu, uu, uu, uu, uu, uu, uu, uu, uu, uu, uu] (by kernel_rfl) (by kernel_rfl) ?_
  intro β a h
  refine sym_seq ?_
  refine St.region h [.inl (.agg (ck b)), .inr (0, 0), .inr (1, 0), .inl (.bool false), uu, uu, uu, uu, uu, uu, uu, uu, uu, uu, uu, uu, uu, uu, uu, uu, uu, uu, uu, uu, uu, uu, uu, uu, uu, uu, uu, uu, uu, uu, uu, uu, uu, uu, uu, uu, uu, uu, uu, uu, uu, uu] [(ck b, 23), (ces [0, 0], 31)] [(ck b, 23), (ces [0, 0], 31)] [#[], #[]] [⟨some 0, none, none, false⟩, ⟨some 1, none, none, false⟩, nn] (by kernel_rfl) (by kernel_rfl) (by kernel_rfl) (by kernel_rfl) (by kernel_rfl) (by kernel_rfl) (by kernel_rfl) (by kernel_rfl) ?_ ?_
  · refine ok_cons (ok_box (b := 0) (u := .agg (ck b)) (bxK (b := b)) rfl (by kernel_rfl) rfl (by kernel_rfl) (by kernel_rfl) (by kernel_rfl) (by kernel_rfl)) ?_
    refine ok_cons (ok_alloc (b := 1) alP rfl (by kernel_rfl) rfl (by kernel_rfl) (by kernel_rfl)) ?_
    refine ok_cons (ok_mv (Or.inr rfl) (by kernel_rfl) rfl (by kernel_rfl) (by kernel_rfl)) ?_
    exact ok_nil
  clear h; intro β a w h
  refine sym_then ?_
  refine sym_seq ?_
  refine St.region h [.inl (.agg (ck b)), .inr (0, 0), .inr (1, 0), .inl (.bool false), .inl (.bool true), uu, uu, uu, .inr (0, 31), .inl (.int .u8 (((b 31) : Nat) : Int)), .inl (.int .u8 ((((b 31) / 128 * 128) : Nat) : Int)), .inl (.bool true), uu, uu, uu, uu, uu, uu, uu, uu, uu, uu, uu, uu, uu, uu, uu, uu, uu, uu, uu, uu, uu, uu, uu, uu, uu, uu, uu, uu, uu, uu, uu, uu, uu, uu] [(ck b, 23), (ces [0, 0], 31)] [(ck b, 23), (ces [0, 0], 31)] [#[], #[]] [nn, ⟨none, none, some 0, false⟩, nn, nn, nn] (by kernel_rfl) (by kernel_rfl) (by kernel_rfl) (by kernel_rfl) (by kernel_rfl) (by kernel_rfl) (by kernel_rfl) (by kernel_rfl) ?_ ?_
  · refine ok_cons (ok_iaddr (b := 0) (off := 0) (off' := 31) (u := .int .i64 ((31 : Nat) : Int)) (ixK (i := 31) (by omega)) rfl (by kernel_rfl) rfl (by kernel_rfl) (by kernel_rfl) (by kernel_rfl) (by kernel_rfl)) ?_
    refine ok_cons (ok_load (b := 0) (off := 31) (c := ck b) (v := .int .u8 (((b 31) : Nat) : Int)) (ld_k (F := b) (i := 31) (t0 := 23) (by omega)) rfl (by kernel_rfl) rfl (by kernel_rfl) (by kernel_rfl) (by kernel_rfl)) ?_
    refine ok_cons (ok_bin (x1 := .int .u8 (((b 31) : Nat) : Int)) (u1 := .int .u8 ((128 : Nat) : Int)) (v := .int .u8 ((((b 31) / 128 * 128) : Nat) : Int)) (and_b (m := (b 31)) (by omega)) rfl (by kernel_rfl) rfl (by kernel_rfl) (by kernel_rfl) (by kernel_rfl) (by kernel_rfl) (by kernel_rfl)) ?_
    refine ok_cons (ok_bin (x1 := .int .u8 ((((b 31) / 128 * 128) : Nat) : Int)) (u1 := .int .u8 ((0 : Nat) : Int)) (v := .bool true) (ne_b (m := ((b 31) / 128 * 128)) (n := 0) (decide_eq_true (by omega))) rfl (by kernel_rfl) rfl (by kernel_rfl) (by kernel_rfl) (by kernel_rfl) (by kernel_rfl) (by kernel_rfl)) ?_
    refine ok_cons (ok_mv (Or.inr rfl) (by kernel_rfl) rfl (by kernel_rfl) (by kernel_rfl)) ?_
    exact ok_nil
  clear h; intro β a w h
  refine sym_then ?_
  refine sym_seq ?_
  refine St.region h [.inl (.agg (ck b)), .inr (0, 0), .inr (1, 0), .inl (.bool false), .inl (.bool true), uu, uu, uu, .inr (0, 31), .inl (.int .u8 (((b 31) : Nat) : Int)), .inl (.int .u8 ((((b 31) / 128 * 128) : Nat) : Int)), .inl (.bool true), .inr (0, 31), .inl (.int .u8 (((b 31) : Nat) : Int)), .inl (.int .u8 ((((b 31) % 128) : Nat) : Int)), .inr (0, 31), uu, uu, uu, uu, uu, uu, uu, uu, uu, uu, uu, uu, uu, uu, uu, uu, uu, uu, uu, uu, uu, uu, uu, uu, uu, uu, uu, uu, uu, uu] [(ck (updN b 31 ((b 31) % 128)), 23), (ces [0, 0], 31)] [(ck b, 23), (ces [0, 0], 31)] [ck (updN b 31 ((b 31) % 128)), #[]] [nn, ⟨none, none, some 0, false⟩, nn, nn, ⟨none, some 0, none, false⟩] (by kernel_rfl) (by kernel_rfl) (by kernel_rfl) (by kernel_rfl) (by kernel_rfl) (by kernel_rfl) (by kernel_rfl) (by kernel_rfl) ?_ ?_
  · refine ok_cons (ok_iaddr (b := 0) (off := 0) (off' := 31) (u := .int .i64 ((31 : Nat) : Int)) (ixK (i := 31) (by omega)) rfl (by kernel_rfl) rfl (by kernel_rfl) (by kernel_rfl) (by kernel_rfl) (by kernel_rfl)) ?_
    refine ok_cons (ok_load (b := 0) (off := 31) (c := ck b) (v := .int .u8 (((b 31) : Nat) : Int)) (ld_k (F := b) (i := 31) (t0 := 23) (by omega)) rfl (by kernel_rfl) rfl (by kernel_rfl) (by kernel_rfl) (by kernel_rfl)) ?_
    refine ok_cons (ok_bin (x1 := .int .u8 (((b 31) : Nat) : Int)) (u1 := .int .u8 ((128 : Nat) : Int)) (v := .int .u8 ((((b 31) % 128) : Nat) : Int)) (an_b (m := (b 31)) (by omega)) rfl (by kernel_rfl) rfl (by kernel_rfl) (by kernel_rfl) (by kernel_rfl) (by kernel_rfl) (by kernel_rfl)) ?_
    refine ok_cons (ok_iaddr (b := 0) (off := 0) (off' := 31) (u := .int .i64 ((31 : Nat) : Int)) (ixK (i := 31) (by omega)) rfl (by kernel_rfl) rfl (by kernel_rfl) (by kernel_rfl) (by kernel_rfl) (by kernel_rfl)) ?_
    refine ok_cons (ok_store (b := 0) (off := 31) (u := .int .u8 ((((b 31) % 128) : Nat) : Int)) (c := ck b) (n := ck (updN b 31 ((b 31) % 128))) (st_k (F := b) (i := 31) (v := ((b 31) % 128)) (t0 := 23) (by omega)) rfl (by kernel_rfl) rfl (by kernel_rfl) (by kernel_rfl) (by kernel_rfl) (by kernel_rfl) (by kernel_rfl)) ?_
    exact ok_nil
  clear h; intro β a w h
  refine sym_then ?_
  refine sym_seq ?_
  refine St.region h [.inl (.agg (ck b)), .inr (0, 0), .inr (1, 0), .inl (.bool false), .inl (.bool true), .inr (2, 0), uu, uu, .inr (0, 31), .inl (.int .u8 (((b 31) : Nat) : Int)), .inl (.int .u8 ((((b 31) / 128 * 128) : Nat) : Int)), .inl (.bool true), .inr (0, 31), .inl (.int .u8 (((b 31) : Nat) : Int)), .inl (.int .u8 ((((b 31) % 128) : Nat) : Int)), .inr (0, 31), .inl (.agg (ck (updN b 31 ((b 31) % 128)))), .inl (el (dig y)), uu, uu, uu, uu, uu, uu, uu, uu, uu, uu, uu, uu, uu, uu, uu, uu, uu, uu, uu, uu, uu, uu, uu, uu, uu, uu, uu, uu] [(ck (updN b 31 ((b 31) % 128)), 23), (ces [0, 0], 31), (ce y, 29)] [(ck (updN b 31 ((b 31) % 128)), 23), (ces [0, 0], 31), (ce 0, 29)] [#[], #[], ce y] [⟨none, none, some 0, false⟩, nn, ⟨some 2, none, none, false⟩, ⟨none, some 2, none, false⟩] (by kernel_rfl) (by kernel_rfl) (by kernel_rfl) (by kernel_rfl) (by kernel_rfl) (by kernel_rfl) (by kernel_rfl) (by kernel_rfl) ?_ ?_
  · refine ok_cons (ok_load (b := 0) (off := 0) (c := ck (updN b 31 ((b 31) % 128))) (v := .agg (ck (updN b 31 ((b 31) % 128)))) (ldK (b := (updN b 31 ((b 31) % 128))) 23) rfl (by kernel_rfl) rfl (by kernel_rfl) (by kernel_rfl) (by kernel_rfl)) ?_
    refine ok_cons (ok_call (vs := #[.agg (ck (updN b 31 ((b 31) % 128)))]) (R := el (dig y)) cO rfl (by kernel_rfl) rfl (by kernel_rfl) (by kernel_rfl) (by kernel_rfl) (fun w => by kernel_rfl)) ?_
    refine ok_cons (ok_alloc (b := 2) alE rfl (by kernel_rfl) rfl (by kernel_rfl) (by kernel_rfl)) ?_
    refine ok_cons (ok_store (b := 2) (off := 0) (u := el (dig y)) (c := ce 0) (n := ce y) (stE (n := y) (c := ce 0) 29 (ce_size _)) rfl (by kernel_rfl) rfl (by kernel_rfl) (by kernel_rfl) (by kernel_rfl) (by kernel_rfl) (by kernel_rfl)) ?_
    exact ok_nil
  clear h; intro β a w h
  refine sym_then ?_
  refine sym_seq ?_
  refine sym_seq ?_
  refine St.region h [.inl (.agg (ck b)), .inr (0, 0), .inr (1, 0), .inl (.bool false), .inl (.bool true), .inr (2, 0), uu, uu, .inr (0, 31), .inl (.int .u8 (((b 31) : Nat) : Int)), .inl (.int .u8 ((((b 31) / 128 * 128) : Nat) : Int)), .inl (.bool true), .inr (0, 31), .inl (.int .u8 (((b 31) : Nat) : Int)), .inl (.int .u8 ((((b 31) % 128) : Nat) : Int)), .inr (0, 31), .inl (.agg (ck (updN b 31 ((b 31) % 128)))), .inl (el (dig y)), .inl (el (dig y)), .inl (.agg (ck (byt (dig y)))), .inl (.agg (ck (updN b 31 ((b 31) % 128)))), .inl (.bool false), uu, uu, uu, uu, uu, uu, uu, uu, uu, uu, uu, uu, uu, uu, uu, uu, uu, uu, uu, uu, uu, uu, uu, uu] [(ck (updN b 31 ((b 31) % 128)), 23), (ces [0, 0], 31), (ce y, 29)] [(ck (updN b 31 ((b 31) % 128)), 23), (ces [0, 0], 31), (ce y, 29)] [#[], #[], #[]] [⟨none, none, some 2, false⟩, nn, ⟨none, none, some 0, false⟩, nn] (by kernel_rfl) (by kernel_rfl) (by kernel_rfl) (by kernel_rfl) (by kernel_rfl) (by kernel_rfl) (by kernel_rfl) (by kernel_rfl) ?_ ?_
  · refine ok_cons (ok_load (b := 2) (off := 0) (c := ce y) (v := el (dig y)) (ldE (n := y) 29) rfl (by kernel_rfl) rfl (by kernel_rfl) (by kernel_rfl) (by kernel_rfl)) ?_
    refine ok_cons (ok_call (vs := #[el (dig y)]) (R := .agg (ck (byt (dig y)))) (fun w => key_d hy w) rfl (by kernel_rfl) rfl (by kernel_rfl) (by kernel_rfl) (by kernel_rfl) (fun w => by kernel_rfl)) ?_
    refine ok_cons (ok_load (b := 0) (off := 0) (c := ck (updN b 31 ((b 31) % 128))) (v := .agg (ck (updN b 31 ((b 31) % 128)))) (ldK (b := (updN b 31 ((b 31) % 128))) 23) rfl (by kernel_rfl) rfl (by kernel_rfl) (by kernel_rfl) (by kernel_rfl)) ?_
    refine ok_cons (ok_bin (x1 := .agg (ck (byt (dig y)))) (u1 := .agg (ck (updN b 31 ((b 31) % 128)))) (v := .bool false) (neK_f (F := (byt (dig y))) (G := (updN b 31 ((b 31) % 128))) hkey) rfl (by kernel_rfl) rfl (by kernel_rfl) (by kernel_rfl) (by kernel_rfl) (by kernel_rfl) (by kernel_rfl)) ?_
    exact ok_nil
  clear h; intro β a w h
  refine sym_then ?_
  refine sym_cond_f h (by kernel_rfl) (by kernel_rfl) ?_
  refine wp_skip ?_
  refine sym_then ?_
  refine sym_seq ?_
  refine St.region h [.inl (.agg (ck b)), .inr (0, 0), .inr (1, 0), .inl (.bool false), .inl (.bool true), .inr (2, 0), .inr (3, 0), .inl (.bool true), .inr (0, 31), .inl (.int .u8 (((b 31) : Nat) : Int)), .inl (.int .u8 ((((b 31) / 128 * 128) : Nat) : Int)), .inl (.bool true), .inr (0, 31), .inl (.int .u8 (((b 31) : Nat) : Int)), .inl (.int .u8 ((((b 31) % 128) : Nat) : Int)), .inr (0, 31), .inl (.agg (ck (updN b 31 ((b 31) % 128)))), .inl (el (dig y)), .inl (el (dig y)), .inl (.agg (ck (byt (dig y)))), .inl (.agg (ck (updN b 31 ((b 31) % 128)))), .inl (.bool false), uu, .inl (.tuple #[el (dig r), .bool true]), .inl (el (dig y)), .inl (.tuple #[el (dig r), .bool true]), .inl (el (dig r)), .inl (.bool true), uu, uu, uu, uu, uu, uu, uu, uu, uu, uu, uu, uu, uu, uu, uu, uu, uu, uu] [(ck (updN b 31 ((b 31) % 128)), 23), (ces [0, 0], 31), (ce y, 29), (ce r, 29)] [(ck (updN b 31 ((b 31) % 128)), 23), (ces [0, 0], 31), (ce y, 29), (ce 0, 29)] [#[], #[], #[], ce r] [⟨none, none, some 2, false⟩, nn, nn, nn, nn, ⟨some 3, none, none, false⟩, ⟨none, some 3, none, false⟩, nn] (by kernel_rfl) (by kernel_rfl) (by kernel_rfl) (by kernel_rfl) (by kernel_rfl) (by kernel_rfl) (by kernel_rfl) (by kernel_rfl) ?_ ?_
  · refine ok_cons (ok_load (b := 2) (off := 0) (c := ce y) (v := el (dig y)) (ldE (n := y) 29) rfl (by kernel_rfl) rfl (by kernel_rfl) (by kernel_rfl) (by kernel_rfl)) ?_
    refine ok_cons (ok_call (vs := #[el (dig y)]) (R := .tuple #[el (dig r), .bool true]) cE rfl (by kernel_rfl) rfl (by kernel_rfl) (by kernel_rfl) (by kernel_rfl) (fun w => by kernel_rfl)) ?_
    refine ok_cons (ok_mv (Or.inl rfl) (by kernel_rfl) rfl (by kernel_rfl) (by kernel_rfl)) ?_
    refine ok_cons (ok_ext (x1 := .tuple #[el (dig r), .bool true]) (v := el (dig r)) (fun w => by kernel_rfl) rfl (by kernel_rfl) rfl (by kernel_rfl) (by kernel_rfl) (by kernel_rfl)) ?_
    refine ok_cons (ok_ext (x1 := .tuple #[el (dig r), .bool true]) (v := .bool true) (fun w => by kernel_rfl) rfl (by kernel_rfl) rfl (by kernel_rfl) (by kernel_rfl) (by kernel_rfl)) ?_
    refine ok_cons (ok_alloc (b := 3) alE rfl (by kernel_rfl) rfl (by kernel_rfl) (by kernel_rfl)) ?_
    refine ok_cons (ok_store (b := 3) (off := 0) (u := el (dig r)) (c := ce 0) (n := ce r) (stE (n := r) (c := ce 0) 29 (ce_size _)) rfl (by kernel_rfl) rfl (by kernel_rfl) (by kernel_rfl) (by kernel_rfl) (by kernel_rfl) (by kernel_rfl)) ?_
    refine ok_cons (ok_mv (Or.inr rfl) (by kernel_rfl) rfl (by kernel_rfl) (by kernel_rfl)) ?_
    exact ok_nil
  clear h; intro β a w h
  refine sym_then ?_
  refine sym_seq ?_
  refine sym_seq ?_
  refine St.region h [.inl (.agg (ck b)), .inr (0, 0), .inr (1, 0), .inl (.bool false), .inl (.bool true), .inr (2, 0), .inr (3, 0), .inl (.bool true), .inr (0, 31), .inl (.int .u8 (((b 31) : Nat) : Int)), .inl (.int .u8 ((((b 31) / 128 * 128) : Nat) : Int)), .inl (.bool true), .inr (0, 31), .inl (.int .u8 (((b 31) : Nat) : Int)), .inl (.int .u8 ((((b 31) % 128) : Nat) : Int)), .inr (0, 31), .inl (.agg (ck (updN b 31 ((b 31) % 128)))), .inl (el (dig y)), .inl (el (dig y)), .inl (.agg (ck (byt (dig y)))), .inl (.agg (ck (updN b 31 ((b 31) % 128)))), .inl (.bool false), uu, .inl (.tuple #[el (dig r), .bool true]), .inl (el (dig y)), .inl (.tuple #[el (dig r), .bool true]), .inl (el (dig r)), .inl (.bool true), .inl (.bool true), .inl (.bool false), .inl (.bool false), .inl (.bool true), .inl (.bool true), .inl (el (dig r)), .inl (el (dig 0)), .inl (.bool false), .inl (.bool false), .inl (.bool false), uu, uu, uu, uu, uu, uu, uu, uu] [(ck (updN b 31 ((b 31) % 128)), 23), (ces [0, 0], 31), (ce y, 29), (ce r, 29)] [(ck (updN b 31 ((b 31) % 128)), 23), (ces [0, 0], 31), (ce y, 29), (ce r, 29)] [#[], #[], #[], #[]] [nn, nn, nn, nn, nn, ⟨none, none, some 3, false⟩, nn, nn, nn, nn] (by kernel_rfl) (by kernel_rfl) (by kernel_rfl) (by kernel_rfl) (by kernel_rfl) (by kernel_rfl) (by kernel_rfl) (by kernel_rfl) ?_ ?_
  · refine ok_cons (ok_mv (Or.inl rfl) (by kernel_rfl) rfl (by kernel_rfl) (by kernel_rfl)) ?_
    refine ok_cons (ok_not (b := true) rfl (by kernel_rfl) rfl (by kernel_rfl) (by kernel_rfl) (by kernel_rfl)) ?_
    refine ok_cons (ok_mv (Or.inl rfl) (by kernel_rfl) rfl (by kernel_rfl) (by kernel_rfl)) ?_
    refine ok_cons (ok_mv (Or.inl rfl) (by kernel_rfl) rfl (by kernel_rfl) (by kernel_rfl)) ?_
    refine ok_cons (ok_mv (Or.inl rfl) (by kernel_rfl) rfl (by kernel_rfl) (by kernel_rfl)) ?_
    refine ok_cons (ok_load (b := 3) (off := 0) (c := ce r) (v := el (dig r)) (ldE (n := r) 29) rfl (by kernel_rfl) rfl (by kernel_rfl) (by kernel_rfl) (by kernel_rfl)) ?_
    refine ok_cons (ok_build (vs := #[]) (v := el (dig 0)) bdE rfl (by kernel_rfl) rfl (by kernel_rfl) (by kernel_rfl) (by kernel_rfl)) ?_
    refine ok_cons (ok_call (vs := #[el (dig r), el (dig 0)]) (R := .bool false) (fun w => is_f hr (by decide +kernel) hz w) rfl (by kernel_rfl) rfl (by kernel_rfl) (by kernel_rfl) (by kernel_rfl) (fun w => by kernel_rfl)) ?_
    refine ok_cons (ok_pick_t rfl (by kernel_rfl) rfl (by kernel_rfl) (by kernel_rfl) (by kernel_rfl) (by kernel_rfl)) ?_
    refine ok_cons (ok_pick_f rfl (by kernel_rfl) rfl (by kernel_rfl) (by kernel_rfl) (by kernel_rfl) (by kernel_rfl)) ?_
    exact ok_nil
  clear h; intro β a w h
  refine sym_then ?_
  refine sym_cond_f h (by kernel_rfl) (by kernel_rfl) ?_
  refine wp_skip ?_
  refine sym_then ?_
  refine sym_seq ?_
  refine sym_seq ?_
  refine St.region h [.inl (.agg (ck b)), .inr (0, 0), .inr (1, 0), .inl (.bool false), .inl (.bool true), .inr (2, 0), .inr (3, 0), .inl (.bool true), .inr (0, 31), .inl (.int .u8 (((b 31) : Nat) : Int)), .inl (.int .u8 ((((b 31) / 128 * 128) : Nat) : Int)), .inl (.bool true), .inr (0, 31), .inl (.int .u8 (((b 31) : Nat) : Int)), .inl (.int .u8 ((((b 31) % 128) : Nat) : Int)), .inr (0, 31), .inl (.agg (ck (updN b 31 ((b 31) % 128)))), .inl (el (dig y)), .inl (el (dig y)), .inl (.agg (ck (byt (dig y)))), .inl (.agg (ck (updN b 31 ((b 31) % 128)))), .inl (.bool false), uu, .inl (.tuple #[el (dig r), .bool true]), .inl (el (dig y)), .inl (.tuple #[el (dig r), .bool true]), .inl (el (dig r)), .inl (.bool true), .inl (.bool true), .inl (.bool false), .inl (.bool false), .inl (.bool true), .inl (.bool true), .inl (el (dig r)), .inl (el (dig 0)), .inl (.bool false), .inl (.bool false), .inl (.bool false), uu, .inl (.bool true), uu, uu, uu, uu, uu, uu] [(ck (updN b 31 ((b 31) % 128)), 23), (ces [0, 0], 31), (ce y, 29), (ce r, 29)] [(ck (updN b 31 ((b 31) % 128)), 23), (ces [0, 0], 31), (ce y, 29), (ce r, 29)] [#[], #[], #[], #[]] [nn] (by kernel_rfl) (by kernel_rfl) (by kernel_rfl) (by kernel_rfl) (by kernel_rfl) (by kernel_rfl) (by kernel_rfl) (by kernel_rfl) ?_ ?_
  · refine ok_cons (ok_mv (Or.inl rfl) (by kernel_rfl) rfl (by kernel_rfl) (by kernel_rfl)) ?_
    exact ok_nil
  clear h; intro β a w h
  refine sym_then ?_
  refine sym_cond_t h (by kernel_rfl) (by kernel_rfl) ?_
  refine St.region h [.inl (.agg (ck b)), .inr (0, 0), .inr (1, 0), .inl (.bool false), .inl (.bool true), .inr (2, 0), .inr (3, 0), .inl (.bool true), .inr (0, 31), .inl (.int .u8 (((b 31) : Nat) : Int)), .inl (.int .u8 ((((b 31) / 128 * 128) : Nat) : Int)), .inl (.bool true), .inr (0, 31), .inl (.int .u8 (((b 31) : Nat) : Int)), .inl (.int .u8 ((((b 31) % 128) : Nat) : Int)), .inr (0, 31), .inl (.agg (ck (updN b 31 ((b 31) % 128)))), .inl (el (dig y)), .inl (el (dig y)), .inl (.agg (ck (byt (dig y)))), .inl (.agg (ck (updN b 31 ((b 31) % 128)))), .inl (.bool false), uu, .inl (.tuple #[el (dig r), .bool true]), .inl (el (dig y)), .inl (.tuple #[el (dig r), .bool true]), .inl (el (dig r)), .inl (.bool true), .inl (.bool true), .inl (.bool false), .inl (.bool false), .inl (.bool true), .inl (.bool true), .inl (el (dig r)), .inl (el (dig 0)), .inl (.bool false), .inl (.bool false), .inl (.bool false), uu, .inl (.bool true), .inl (el (dig 0)), .inl (el (dig r)), .inl (el (dig (sb 0 r))), uu, uu, uu] [(ck (updN b 31 ((b 31) % 128)), 23), (ces [0, 0], 31), (ce y, 29), (ce (sb 0 r), 29)] [(ck (updN b 31 ((b 31) % 128)), 23), (ces [0, 0], 31), (ce y, 29), (ce r, 29)] [#[], #[], #[], ce (sb 0 r)] [nn, ⟨none, none, some 3, false⟩, nn, ⟨none, some 3, none, false⟩] (by kernel_rfl) (by kernel_rfl) (by kernel_rfl) (by kernel_rfl) (by kernel_rfl) (by kernel_rfl) (by kernel_rfl) (by kernel_rfl) ?_ ?_
  · refine ok_cons (ok_build (vs := #[]) (v := el (dig 0)) bdE rfl (by kernel_rfl) rfl (by kernel_rfl) (by kernel_rfl) (by kernel_rfl)) ?_
    refine ok_cons (ok_load (b := 3) (off := 0) (c := ce r) (v := el (dig r)) (ldE (n := r) 29) rfl (by kernel_rfl) rfl (by kernel_rfl) (by kernel_rfl) (by kernel_rfl)) ?_
    refine ok_cons (ok_call (vs := #[el (dig 0), el (dig r)]) (R := el (dig (sb 0 r))) (fun w => minus_m (by decide +kernel) hr w) rfl (by kernel_rfl) rfl (by kernel_rfl) (by kernel_rfl) (by kernel_rfl) (fun w => by kernel_rfl)) ?_
    refine ok_cons (ok_store (b := 3) (off := 0) (u := el (dig (sb 0 r))) (c := ce r) (n := ce (sb 0 r)) (stE (n := (sb 0 r)) (c := ce r) 29 (ce_size _)) rfl (by kernel_rfl) rfl (by kernel_rfl) (by kernel_rfl) (by kernel_rfl) (by kernel_rfl) (by kernel_rfl)) ?_
    exact ok_nil
  clear h; intro β a w h
  refine sym_then ?_
  refine sym_seq ?_
  refine St.region h [.inl (.agg (ck b)), .inr (0, 0), .inr (1, 0), .inl (.bool true), .inl (.bool true), .inr (2, 0), .inr (3, 0), .inl (.bool true), .inr (0, 31), .inl (.int .u8 (((b 31) : Nat) : Int)), .inl (.int .u8 ((((b 31) / 128 * 128) : Nat) : Int)), .inl (.bool true), .inr (0, 31), .inl (.int .u8 (((b 31) : Nat) : Int)), .inl (.int .u8 ((((b 31) % 128) : Nat) : Int)), .inr (0, 31), .inl (.agg (ck (updN b 31 ((b 31) % 128)))), .inl (el (dig y)), .inl (el (dig y)), .inl (.agg (ck (byt (dig y)))), .inl (.agg (ck (updN b 31 ((b 31) % 128)))), .inl (.bool false), uu, .inl (.tuple #[el (dig r), .bool true]), .inl (el (dig y)), .inl (.tuple #[el (dig r), .bool true]), .inl (el (dig r)), .inl (.bool true), .inl (.bool true), .inl (.bool false), .inl (.bool false), .inl (.bool true), .inl (.bool true), .inl (el (dig r)), .inl (el (dig 0)), .inl (.bool false), .inl (.bool false), .inl (.bool false), uu, .inl (.bool true), .inl (el (dig 0)), .inl (el (dig r)), .inl (el (dig (sb 0 r))), .inl (el (dig (sb 0 r))), .inl (el (dig y)), .inl (.agg (ces [(sb 0 r), (sb y 1)]))] [(ck (updN b 31 ((b 31) % 128)), 23), (ces [(sb 0 r), (sb y 1)], 31), (ce y, 29), (ce (sb 0 r), 29)] [(ck (updN b 31 ((b 31) % 128)), 23), (ces [0, 0], 31), (ce y, 29), (ce (sb 0 r), 29)] [#[], ces [(sb 0 r), (sb y 1)], #[], #[]] [⟨none, none, some 3, false⟩, ⟨none, none, some 2, false⟩, nn, ⟨none, some 1, none, false⟩, nn] (by kernel_rfl) (by kernel_rfl) (by kernel_rfl) (by kernel_rfl) (by kernel_rfl) (by kernel_rfl) (by kernel_rfl) (by kernel_rfl) ?_ ?_
  · refine ok_cons (ok_load (b := 3) (off := 0) (c := ce (sb 0 r)) (v := el (dig (sb 0 r))) (ldE (n := (sb 0 r)) 29) rfl (by kernel_rfl) rfl (by kernel_rfl) (by kernel_rfl) (by kernel_rfl)) ?_
    refine ok_cons (ok_load (b := 2) (off := 0) (c := ce y) (v := el (dig y)) (ldE (n := y) 29) rfl (by kernel_rfl) rfl (by kernel_rfl) (by kernel_rfl) (by kernel_rfl)) ?_
    refine ok_cons (ok_call (vs := #[el (dig (sb 0 r)), el (dig y)]) (R := .agg (ces [(sb 0 r), (sb y 1)])) (fun w => at_r hy w) rfl (by kernel_rfl) rfl (by kernel_rfl) (by kernel_rfl) (by kernel_rfl) (fun w => by kernel_rfl)) ?_
    refine ok_cons (ok_store (b := 1) (off := 0) (u := .agg (ces [(sb 0 r), (sb y 1)])) (c := ces [0, 0]) (n := ces [(sb 0 r), (sb y 1)]) (stP (a := (sb 0 r)) (b := (sb y 1)) (c := ces [0, 0]) 31 (by rw [ces_size]; rfl)) rfl (by kernel_rfl) rfl (by kernel_rfl) (by kernel_rfl) (by kernel_rfl) (by kernel_rfl) (by kernel_rfl)) ?_
    refine ok_cons (ok_mv (Or.inr rfl) (by kernel_rfl) rfl (by kernel_rfl) (by kernel_rfl)) ?_
    exact ok_nil
  clear h; intro β a w h
  refine sym_then ?_
  refine wp_ret ?_
  exact sym_ret2 (b := 1) (t0 := 31) (c := ces [(sb 0 r), (sb y 1)]) h Try.results10 (by kernel_rfl) (by kernel_rfl) (by kernel_rfl) (by kernel_rfl) (by kernel_rfl) Try.underlying31 rfl (by rw [ces_size]; kernel_rfl) (fun hb => ⟨rfl, hb⟩)

set_option maxHeartbeats 4000000 in
theorem of_e {b : Nat → Nat} (hb : ∀ i, b i < 256) {y r : Nat} (hy : y < pp) (cO : ∀ w, Calls Try.prog 28 #[.agg (ck (updN b 31 (b 31 % 128)))] w fun e w' => e = .returned (el (dig y)) ∧ Below w.heap.size w w') (hkey : ∀ i, i < 32 → byt (dig y) i = (updN b 31 (b 31 % 128)) i) (cE : ∀ w, Calls Try.prog 30 #[el (dig y)] w fun e w' => e = .returned (.tuple #[el (dig r), .bool true]) ∧ Below w.heap.size w w') (hod : b 31 < 128) (W0 : World) : Calls Try.prog 10 #[.agg (ck b)] W0 fun e w' => e = .returned (.tuple #[.agg (ces [r, sb y 1]), .bool true]) ∧ Below W0.heap.size W0 w' := by
  have g1 := hb 31
  refine sym_enter Try.func10 Try.ntmps10 rfl [.inl (.agg (ck b)), uu, uu, uu, uu, uu, uu, uu, uu, uu, uu, uu, uu, uu, uu, uu, uu, uu, uu, uu, uu, uu, uu, uu, uu, uu, uu, uu, uu, uu, uu, uu, uu, uu, uu, uu, uu, uu, uu, uu, uu, uu, uu, uu, uu, uu] (by kernel_rfl) (by kernel_rfl) ?_
  intro β a h
  refine sym_seq ?_
  refine St.region h [.inl (.agg (ck b)), .inr (0, 0), .inr (1, 0), .inl (.bool false), uu, uu, uu, uu, uu, uu, uu, uu, uu, uu, uu, uu, uu, uu, uu, uu, uu, uu, uu, uu, uu, uu, uu, uu, uu, uu, uu, uu, uu, uu, uu, uu, uu, uu, uu, uu, uu, uu, uu, uu, uu, uu] [(ck b, 23), (ces [0, 0], 31)] [(ck b, 23), (ces [0, 0], 31)] [#[], #[]] [⟨some 0, none, none, false⟩, ⟨some 1, none, none, false⟩, nn] (by kernel_rfl) (by kernel_rfl) (by kernel_rfl) (by kernel_rfl) (by kernel_rfl) (by kernel_rfl) (by kernel_rfl) (by kernel_rfl) ?_ ?_
  · refine ok_cons (ok_box (b := 0) (u := .agg (ck b)) (bxK (b := b)) rfl (by kernel_rfl) rfl (by kernel_rfl) (by kernel_rfl) (by kernel_rfl) (by kernel_rfl)) ?_
    refine ok_cons (ok_alloc (b := 1) alP rfl (by kernel_rfl) rfl (by kernel_rfl) (by kernel_rfl)) ?_
    refine ok_cons (ok_mv (Or.inr rfl) (by kernel_rfl) rfl (by kernel_rfl) (by kernel_rfl)) ?_
    exact ok_nil
  clear h; intro β a w h
  refine sym_then ?_
  refine sym_seq ?_
  refine St.region h [.inl (.agg (ck b)), .inr (0, 0), .inr (1, 0), .inl (.bool false), .inl (.bool false), uu, uu, uu, .inr (0, 31), .inl (.int .u8 (((b 31) : Nat) : Int)), .inl (.int .u8 ((((b 31) / 128 * 128) : Nat) : Int)), .inl (.bool false), uu, uu, uu, uu, uu, uu, uu, uu, uu, uu, uu, uu, uu, uu, uu, uu, uu, uu, uu, uu, uu, uu, uu, uu, uu, uu, uu, uu, uu, uu, uu, uu, uu, uu] [(ck b, 23), (ces [0, 0], 31)] [(ck b, 23), (ces [0, 0], 31)] [#[], #[]] [nn, ⟨none, none, some 0, false⟩, nn, nn, nn] (by kernel_rfl) (by kernel_rfl) (by kernel_rfl) (by kernel_rfl) (by kernel_rfl) (by kernel_rfl) (by kernel_rfl) (by kernel_rfl) ?_ ?_
  · refine ok_cons (ok_iaddr (b := 0) (off := 0) (off' := 31) (u := .int .i64 ((31 : Nat) : Int)) (ixK (i := 31) (by omega)) rfl (by kernel_rfl) rfl (by kernel_rfl) (by kernel_rfl) (by kernel_rfl) (by kernel_rfl)) ?_
    refine ok_cons (ok_load (b := 0) (off := 31) (c := ck b) (v := .int .u8 (((b 31) : Nat) : Int)) (ld_k (F := b) (i := 31) (t0 := 23) (by omega)) rfl (by kernel_rfl) rfl (by kernel_rfl) (by kernel_rfl) (by kernel_rfl)) ?_
    refine ok_cons (ok_bin (x1 := .int .u8 (((b 31) : Nat) : Int)) (u1 := .int .u8 ((128 : Nat) : Int)) (v := .int .u8 ((((b 31) / 128 * 128) : Nat) : Int)) (and_b (m := (b 31)) (by omega)) rfl (by kernel_rfl) rfl (by kernel_rfl) (by kernel_rfl) (by kernel_rfl) (by kernel_rfl) (by kernel_rfl)) ?_
    refine ok_cons (ok_bin (x1 := .int .u8 ((((b 31) / 128 * 128) : Nat) : Int)) (u1 := .int .u8 ((0 : Nat) : Int)) (v := .bool false) (ne_b (m := ((b 31) / 128 * 128)) (n := 0) (decide_eq_false (by omega))) rfl (by kernel_rfl) rfl (by kernel_rfl) (by kernel_rfl) (by kernel_rfl) (by kernel_rfl) (by kernel_rfl)) ?_
    refine ok_cons (ok_mv (Or.inr rfl) (by kernel_rfl) rfl (by kernel_rfl) (by kernel_rfl)) ?_
    exact ok_nil
  clear h; intro β a w h
  refine sym_then ?_
  refine sym_seq ?_
  refine St.region h [.inl (.agg (ck b)), .inr (0, 0), .inr (1, 0), .inl (.bool false), .inl (.bool false), uu, uu, uu, .inr (0, 31), .inl (.int .u8 (((b 31) : Nat) : Int)), .inl (.int .u8 ((((b 31) / 128 * 128) : Nat) : Int)), .inl (.bool false), .inr (0, 31), .inl (.int .u8 (((b 31) : Nat) : Int)), .inl (.int .u8 ((((b 31) % 128) : Nat) : Int)), .inr (0, 31), uu, uu, uu, uu, uu, uu, uu, uu, uu, uu, uu, uu, uu, uu, uu, uu, uu, uu, uu, uu, uu, uu, uu, uu, uu, uu, uu, uu, uu, uu] [(ck (updN b 31 ((b 31) % 128)), 23), (ces [0, 0], 31)] [(ck b, 23), (ces [0, 0], 31)] [ck (updN b 31 ((b 31) % 128)), #[]] [nn, ⟨none, none, some 0, false⟩, nn, nn, ⟨none, some 0, none, false⟩] (by kernel_rfl) (by kernel_rfl) (by kernel_rfl) (by kernel_rfl) (by kernel_rfl) (by kernel_rfl) (by kernel_rfl) (by kernel_rfl) ?_ ?_
  · refine ok_cons (ok_iaddr (b := 0) (off := 0) (off' := 31) (u := .int .i64 ((31 : Nat) : Int)) (ixK (i := 31) (by omega)) rfl (by kernel_rfl) rfl (by kernel_rfl) (by kernel_rfl) (by kernel_rfl) (by kernel_rfl)) ?_
    refine ok_cons (ok_load (b := 0) (off := 31) (c := ck b) (v := .int .u8 (((b 31) : Nat) : Int)) (ld_k (F := b) (i := 31) (t0 := 23) (by omega)) rfl (by kernel_rfl) rfl (by kernel_rfl) (by kernel_rfl) (by kernel_rfl)) ?_
    refine ok_cons (ok_bin (x1 := .int .u8 (((b 31) : Nat) : Int)) (u1 := .int .u8 ((128 : Nat) : Int)) (v := .int .u8 ((((b 31) % 128) : Nat) : Int)) (an_b (m := (b 31)) (by omega)) rfl (by kernel_rfl) rfl (by kernel_rfl) (by kernel_rfl) (by kernel_rfl) (by kernel_rfl) (by kernel_rfl)) ?_
    refine ok_cons (ok_iaddr (b := 0) (off := 0) (off' := 31) (u := .int .i64 ((31 : Nat) : Int)) (ixK (i := 31) (by omega)) rfl (by kernel_rfl) rfl (by kernel_rfl) (by kernel_rfl) (by kernel_rfl) (by kernel_rfl)) ?_
    refine ok_cons (ok_store (b := 0) (off := 31) (u := .int .u8 ((((b 31) % 128) : Nat) : Int)) (c := ck b) (n := ck (updN b 31 ((b 31) % 128))) (st_k (F := b) (i := 31) (v := ((b 31) % 128)) (t0 := 23) (by omega)) rfl (by kernel_rfl) rfl (by kernel_rfl) (by kernel_rfl) (by kernel_rfl) (by kernel_rfl) (by kernel_rfl)) ?_
    exact ok_nil
  clear h; intro β a w h
  refine sym_then ?_
  refine sym_seq ?_
  refine St.region h [.inl (.agg (ck b)), .inr (0, 0), .inr (1, 0), .inl (.bool false), .inl (.bool false), .inr (2, 0), uu, uu, .inr (0, 31), .inl (.int .u8 (((b 31) : Nat) : Int)), .inl (.int .u8 ((((b 31) / 128 * 128) : Nat) : Int)), .inl (.bool false), .inr (0, 31), .inl (.int .u8 (((b 31) : Nat) : Int)), .inl (.int .u8 ((((b 31) % 128) : Nat) : Int)), .inr (0, 31), .inl (.agg (ck (updN b 31 ((b 31) % 128)))), .inl (el (dig y)), uu, uu, uu, uu, uu, uu, uu, uu, uu, uu, uu, uu, uu, uu, uu, uu, uu, uu, uu, uu, uu, uu, uu, uu, uu, uu, uu, uu] [(ck (updN b 31 ((b 31) % 128)), 23), (ces [0, 0], 31), (ce y, 29)] [(ck (updN b 31 ((b 31) % 128)), 23), (ces [0, 0], 31), (ce 0, 29)] [#[], #[], ce y] [⟨none, none, some 0, false⟩, nn, ⟨some 2, none, none, false⟩, ⟨none, some 2, none, false⟩] (by kernel_rfl) (by kernel_rfl) (by kernel_rfl) (by kernel_rfl) (by kernel_rfl) (by kernel_rfl) (by kernel_rfl) (by kernel_rfl) ?_ ?_
  · refine ok_cons (ok_load (b := 0) (off := 0) (c := ck (updN b 31 ((b 31) % 128))) (v := .agg (ck (updN b 31 ((b 31) % 128)))) (ldK (b := (updN b 31 ((b 31) % 128))) 23) rfl (by kernel_rfl) rfl (by kernel_rfl) (by kernel_rfl) (by kernel_rfl)) ?_
    refine ok_cons (ok_call (vs := #[.agg (ck (updN b 31 ((b 31) % 128)))]) (R := el (dig y)) cO rfl (by kernel_rfl) rfl (by kernel_rfl) (by kernel_rfl) (by kernel_rfl) (fun w => by kernel_rfl)) ?_
    refine ok_cons (ok_alloc (b := 2) alE rfl (by kernel_rfl) rfl (by kernel_rfl) (by kernel_rfl)) ?_
    refine ok_cons (ok_store (b := 2) (off := 0) (u := el (dig y)) (c := ce 0) (n := ce y) (stE (n := y) (c := ce 0) 29 (ce_size _)) rfl (by kernel_rfl) rfl (by kernel_rfl) (by kernel_rfl) (by kernel_rfl) (by kernel_rfl) (by kernel_rfl)) ?_
    exact ok_nil
  clear h; intro β a w h
  refine sym_then ?_
  refine sym_seq ?_
  refine sym_seq ?_
  refine St.region h [.inl (.agg (ck b)), .inr (0, 0), .inr (1, 0), .inl (.bool false), .inl (.bool false), .inr (2, 0), uu, uu, .inr (0, 31), .inl (.int .u8 (((b 31) : Nat) : Int)), .inl (.int .u8 ((((b 31) / 128 * 128) : Nat) : Int)), .inl (.bool false), .inr (0, 31), .inl (.int .u8 (((b 31) : Nat) : Int)), .inl (.int .u8 ((((b 31) % 128) : Nat) : Int)), .inr (0, 31), .inl (.agg (ck (updN b 31 ((b 31) % 128)))), .inl (el (dig y)), .inl (el (dig y)), .inl (.agg (ck (byt (dig y)))), .inl (.agg (ck (updN b 31 ((b 31) % 128)))), .inl (.bool false), uu, uu, uu, uu, uu, uu, uu, uu, uu, uu, uu, uu, uu, uu, uu, uu, uu, uu, uu, uu, uu, uu, uu, uu] [(ck (updN b 31 ((b 31) % 128)), 23), (ces [0, 0], 31), (ce y, 29)] [(ck (updN b 31 ((b 31) % 128)), 23), (ces [0, 0], 31), (ce y, 29)] [#[], #[], #[]] [⟨none, none, some 2, false⟩, nn, ⟨none, none, some 0, false⟩, nn] (by kernel_rfl) (by kernel_rfl) (by kernel_rfl) (by kernel_rfl) (by kernel_rfl) (by kernel_rfl) (by kernel_rfl) (by kernel_rfl) ?_ ?_
  · refine ok_cons (ok_load (b := 2) (off := 0) (c := ce y) (v := el (dig y)) (ldE (n := y) 29) rfl (by kernel_rfl) rfl (by kernel_rfl) (by kernel_rfl) (by kernel_rfl)) ?_
    refine ok_cons (ok_call (vs := #[el (dig y)]) (R := .agg (ck (byt (dig y)))) (fun w => key_d hy w) rfl (by kernel_rfl) rfl (by kernel_rfl) (by kernel_rfl) (by kernel_rfl) (fun w => by kernel_rfl)) ?_
    refine ok_cons (ok_load (b := 0) (off := 0) (c := ck (updN b 31 ((b 31) % 128))) (v := .agg (ck (updN b 31 ((b 31) % 128)))) (ldK (b := (updN b 31 ((b 31) % 128))) 23) rfl (by kernel_rfl) rfl (by kernel_rfl) (by kernel_rfl) (by kernel_rfl)) ?_
    refine ok_cons (ok_bin (x1 := .agg (ck (byt (dig y)))) (u1 := .agg (ck (updN b 31 ((b 31) % 128)))) (v := .bool false) (neK_f (F := (byt (dig y))) (G := (updN b 31 ((b 31) % 128))) hkey) rfl (by kernel_rfl) rfl (by kernel_rfl) (by kernel_rfl) (by kernel_rfl) (by kernel_rfl) (by kernel_rfl)) ?_
    exact ok_nil
  clear h; intro β a w h
  refine sym_then ?_
  refine sym_cond_f h (by kernel_rfl) (by kernel_rfl) ?_
  refine wp_skip ?_
  refine sym_then ?_
  refine sym_seq ?_
  refine St.region h [.inl (.agg (ck b)), .inr (0, 0), .inr (1, 0), .inl (.bool false), .inl (.bool false), .inr (2, 0), .inr (3, 0), .inl (.bool true), .inr (0, 31), .inl (.int .u8 (((b 31) : Nat) : Int)), .inl (.int .u8 ((((b 31) / 128 * 128) : Nat) : Int)), .inl (.bool false), .inr (0, 31), .inl (.int .u8 (((b 31) : Nat) : Int)), .inl (.int .u8 ((((b 31) % 128) : Nat) : Int)), .inr (0, 31), .inl (.agg (ck (updN b 31 ((b 31) % 128)))), .inl (el (dig y)), .inl (el (dig y)), .inl (.agg (ck (byt (dig y)))), .inl (.agg (ck (updN b 31 ((b 31) % 128)))), .inl (.bool false), uu, .inl (.tuple #[el (dig r), .bool true]), .inl (el (dig y)), .inl (.tuple #[el (dig r), .bool true]), .inl (el (dig r)), .inl (.bool true), uu, uu, uu, uu, uu, uu, uu, uu, uu, uu, uu, uu, uu, uu, uu, uu, uu, uu] [(ck (updN b 31 ((b 31) % 128)), 23), (ces [0, 0], 31), (ce y, 29), (ce r, 29)] [(ck (updN b 31 ((b 31) % 128)), 23), (ces [0, 0], 31), (ce y, 29), (ce 0, 29)] [#[], #[], #[], ce r] [⟨none, none, some 2, false⟩, nn, nn, nn, nn, ⟨some 3, none, none, false⟩, ⟨none, some 3, none, false⟩, nn] (by kernel_rfl) (by kernel_rfl) (by kernel_rfl) (by kernel_rfl) (by kernel_rfl) (by kernel_rfl) (by kernel_rfl) (by kernel_rfl) ?_ ?_
  · refine ok_cons (ok_load (b := 2) (off := 0) (c := ce y) (v := el (dig y)) (ldE (n := y) 29) rfl (by kernel_rfl) rfl (by kernel_rfl) (by kernel_rfl) (by kernel_rfl)) ?_
    refine ok_cons (ok_call (vs := #[el (dig y)]) (R := .tuple #[el (dig r), .bool true]) cE rfl (by kernel_rfl) rfl (by kernel_rfl) (by kernel_rfl) (by kernel_rfl) (fun w => by kernel_rfl)) ?_
    refine ok_cons (ok_mv (Or.inl rfl) (by kernel_rfl) rfl (by kernel_rfl) (by kernel_rfl)) ?_
    refine ok_cons (ok_ext (x1 := .tuple #[el (dig r), .bool true]) (v := el (dig r)) (fun w => by kernel_rfl) rfl (by kernel_rfl) rfl (by kernel_rfl) (by kernel_rfl) (by kernel_rfl)) ?_
    refine ok_cons (ok_ext (x1 := .tuple #[el (dig r), .bool true]) (v := .bool true) (fun w => by kernel_rfl) rfl (by kernel_rfl) rfl (by kernel_rfl) (by kernel_rfl) (by kernel_rfl)) ?_
    refine ok_cons (ok_alloc (b := 3) alE rfl (by kernel_rfl) rfl (by kernel_rfl) (by kernel_rfl)) ?_
    refine ok_cons (ok_store (b := 3) (off := 0) (u := el (dig r)) (c := ce 0) (n := ce r) (stE (n := r) (c := ce 0) 29 (ce_size _)) rfl (by kernel_rfl) rfl (by kernel_rfl) (by kernel_rfl) (by kernel_rfl) (by kernel_rfl) (by kernel_rfl)) ?_
    refine ok_cons (ok_mv (Or.inr rfl) (by kernel_rfl) rfl (by kernel_rfl) (by kernel_rfl)) ?_
    exact ok_nil
  clear h; intro β a w h
  refine sym_then ?_
  refine sym_seq ?_
  refine sym_seq ?_
  refine St.region h [.inl (.agg (ck b)), .inr (0, 0), .inr (1, 0), .inl (.bool false), .inl (.bool false), .inr (2, 0), .inr (3, 0), .inl (.bool true), .inr (0, 31), .inl (.int .u8 (((b 31) : Nat) : Int)), .inl (.int .u8 ((((b 31) / 128 * 128) : Nat) : Int)), .inl (.bool false), .inr (0, 31), .inl (.int .u8 (((b 31) : Nat) : Int)), .inl (.int .u8 ((((b 31) % 128) : Nat) : Int)), .inr (0, 31), .inl (.agg (ck (updN b 31 ((b 31) % 128)))), .inl (el (dig y)), .inl (el (dig y)), .inl (.agg (ck (byt (dig y)))), .inl (.agg (ck (updN b 31 ((b 31) % 128)))), .inl (.bool false), uu, .inl (.tuple #[el (dig r), .bool true]), .inl (el (dig y)), .inl (.tuple #[el (dig r), .bool true]), .inl (el (dig r)), .inl (.bool true), .inl (.bool true), .inl (.bool false), .inl (.bool false), .inl (.bool false), .inl (.bool false), uu, uu, uu, .inl (.bool false), .inl (.bool false), uu, uu, uu, uu, uu, uu, uu, uu] [(ck (updN b 31 ((b 31) % 128)), 23), (ces [0, 0], 31), (ce y, 29), (ce r, 29)] [(ck (updN b 31 ((b 31) % 128)), 23), (ces [0, 0], 31), (ce y, 29), (ce r, 29)] [#[], #[], #[], #[]] [nn, nn, nn, nn, nn, nn, nn, nn, nn, nn] (by kernel_rfl) (by kernel_rfl) (by kernel_rfl) (by kernel_rfl) (by kernel_rfl) (by kernel_rfl) (by kernel_rfl) (by kernel_rfl) ?_ ?_
  · refine ok_cons (ok_mv (Or.inl rfl) (by kernel_rfl) rfl (by kernel_rfl) (by kernel_rfl)) ?_
    refine ok_cons (ok_not (b := true) rfl (by kernel_rfl) rfl (by kernel_rfl) (by kernel_rfl) (by kernel_rfl)) ?_
    refine ok_cons (ok_mv (Or.inl rfl) (by kernel_rfl) rfl (by kernel_rfl) (by kernel_rfl)) ?_
    refine ok_cons (ok_mv (Or.inl rfl) (by kernel_rfl) rfl (by kernel_rfl) (by kernel_rfl)) ?_
    refine ok_cons (ok_mv (Or.inl rfl) (by kernel_rfl) rfl (by kernel_rfl) (by kernel_rfl)) ?_
    refine ok_cons (ok_skip (by kernel_rfl) rfl (by kernel_rfl)) ?_
    refine ok_cons (ok_skip (by kernel_rfl) rfl (by kernel_rfl)) ?_
    refine ok_cons (ok_skip (by kernel_rfl) rfl (by kernel_rfl)) ?_
    refine ok_cons (ok_pick_f rfl (by kernel_rfl) rfl (by kernel_rfl) (by kernel_rfl) (by kernel_rfl) (by kernel_rfl)) ?_
    refine ok_cons (ok_pick_f rfl (by kernel_rfl) rfl (by kernel_rfl) (by kernel_rfl) (by kernel_rfl) (by kernel_rfl)) ?_
    exact ok_nil
  clear h; intro β a w h
  refine sym_then ?_
  refine sym_cond_f h (by kernel_rfl) (by kernel_rfl) ?_
  refine wp_skip ?_
  refine sym_then ?_
  refine sym_seq ?_
  refine sym_seq ?_
  refine St.region h [.inl (.agg (ck b)), .inr (0, 0), .inr (1, 0), .inl (.bool false), .inl (.bool false), .inr (2, 0), .inr (3, 0), .inl (.bool true), .inr (0, 31), .inl (.int .u8 (((b 31) : Nat) : Int)), .inl (.int .u8 ((((b 31) / 128 * 128) : Nat) : Int)), .inl (.bool false), .inr (0, 31), .inl (.int .u8 (((b 31) : Nat) : Int)), .inl (.int .u8 ((((b 31) % 128) : Nat) : Int)), .inr (0, 31), .inl (.agg (ck (updN b 31 ((b 31) % 128)))), .inl (el (dig y)), .inl (el (dig y)), .inl (.agg (ck (byt (dig y)))), .inl (.agg (ck (updN b 31 ((b 31) % 128)))), .inl (.bool false), uu, .inl (.tuple #[el (dig r), .bool true]), .inl (el (dig y)), .inl (.tuple #[el (dig r), .bool true]), .inl (el (dig r)), .inl (.bool true), .inl (.bool true), .inl (.bool false), .inl (.bool false), .inl (.bool false), .inl (.bool false), uu, uu, uu, .inl (.bool false), .inl (.bool false), uu, .inl (.bool false), uu, uu, uu, uu, uu, uu] [(ck (updN b 31 ((b 31) % 128)), 23), (ces [0, 0], 31), (ce y, 29), (ce r, 29)] [(ck (updN b 31 ((b 31) % 128)), 23), (ces [0, 0], 31), (ce y, 29), (ce r, 29)] [#[], #[], #[], #[]] [nn] (by kernel_rfl) (by kernel_rfl) (by kernel_rfl) (by kernel_rfl) (by kernel_rfl) (by kernel_rfl) (by kernel_rfl) (by kernel_rfl) ?_ ?_
  · refine ok_cons (ok_mv (Or.inl rfl) (by kernel_rfl) rfl (by kernel_rfl) (by kernel_rfl)) ?_
    exact ok_nil
  clear h; intro β a w h
  refine sym_then ?_
  refine sym_cond_f h (by kernel_rfl) (by kernel_rfl) ?_
  refine wp_skip ?_
  refine sym_then ?_
  refine sym_seq ?_
  refine St.region h [.inl (.agg (ck b)), .inr (0, 0), .inr (1, 0), .inl (.bool true), .inl (.bool false), .inr (2, 0), .inr (3, 0), .inl (.bool true), .inr (0, 31), .inl (.int .u8 (((b 31) : Nat) : Int)), .inl (.int .u8 ((((b 31) / 128 * 128) : Nat) : Int)), .inl (.bool false), .inr (0, 31), .inl (.int .u8 (((b 31) : Nat) : Int)), .inl (.int .u8 ((((b 31) % 128) : Nat) : Int)), .inr (0, 31), .inl (.agg (ck (updN b 31 ((b 31) % 128)))), .inl (el (dig y)), .inl (el (dig y)), .inl (.agg (ck (byt (dig y)))), .inl (.agg (ck (updN b 31 ((b 31) % 128)))), .inl (.bool false), uu, .inl (.tuple #[el (dig r), .bool true]), .inl (el (dig y)), .inl (.tuple #[el (dig r), .bool true]), .inl (el (dig r)), .inl (.bool true), .inl (.bool true), .inl (.bool false), .inl (.bool false), .inl (.bool false), .inl (.bool false), uu, uu, uu, .inl (.bool false), .inl (.bool false), uu, .inl (.bool false), uu, uu, uu, .inl (el (dig r)), .inl (el (dig y)), .inl (.agg (ces [r, (sb y 1)]))] [(ck (updN b 31 ((b 31) % 128)), 23), (ces [r, (sb y 1)], 31), (ce y, 29), (ce r, 29)] [(ck (updN b 31 ((b 31) % 128)), 23), (ces [0, 0], 31), (ce y, 29), (ce r, 29)] [#[], ces [r, (sb y 1)], #[], #[]] [⟨none, none, some 3, false⟩, ⟨none, none, some 2, false⟩, nn, ⟨none, some 1, none, false⟩, nn] (by kernel_rfl) (by kernel_rfl) (by kernel_rfl) (by kernel_rfl) (by kernel_rfl) (by kernel_rfl) (by kernel_rfl) (by kernel_rfl) ?_ ?_
  · refine ok_cons (ok_load (b := 3) (off := 0) (c := ce r) (v := el (dig r)) (ldE (n := r) 29) rfl (by kernel_rfl) rfl (by kernel_rfl) (by kernel_rfl) (by kernel_rfl)) ?_
    refine ok_cons (ok_load (b := 2) (off := 0) (c := ce y) (v := el (dig y)) (ldE (n := y) 29) rfl (by kernel_rfl) rfl (by kernel_rfl) (by kernel_rfl) (by kernel_rfl)) ?_
    refine ok_cons (ok_call (vs := #[el (dig r), el (dig y)]) (R := .agg (ces [r, (sb y 1)])) (fun w => at_r hy w) rfl (by kernel_rfl) rfl (by kernel_rfl) (by kernel_rfl) (by kernel_rfl) (fun w => by kernel_rfl)) ?_
    refine ok_cons (ok_store (b := 1) (off := 0) (u := .agg (ces [r, (sb y 1)])) (c := ces [0, 0]) (n := ces [r, (sb y 1)]) (stP (a := r) (b := (sb y 1)) (c := ces [0, 0]) 31 (by rw [ces_size]; rfl)) rfl (by kernel_rfl) rfl (by kernel_rfl) (by kernel_rfl) (by kernel_rfl) (by kernel_rfl) (by kernel_rfl)) ?_
    refine ok_cons (ok_mv (Or.inr rfl) (by kernel_rfl) rfl (by kernel_rfl) (by kernel_rfl)) ?_
    exact ok_nil
  clear h; intro β a w h
  refine sym_then ?_
  refine wp_ret ?_
  exact sym_ret2 (b := 1) (t0 := 31) (c := ces [r, (sb y 1)]) h Try.results10 (by kernel_rfl) (by kernel_rfl) (by kernel_rfl) (by kernel_rfl) (by kernel_rfl) Try.underlying31 rfl (by rw [ces_size]; kernel_rfl) (fun hb => ⟨rfl, hb⟩)

end Go.Proofs.Ytgiemldmphbolaa

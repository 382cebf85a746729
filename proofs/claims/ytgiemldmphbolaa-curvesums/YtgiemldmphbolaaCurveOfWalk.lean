/- The walk of CurveOf: which texts are points. -/
import Derived.Test.YtgiemldmphbolaaCurveAlive
import Derived.Test.YtgiemldmphbolaaG9
import Derived.Test.YtgiemldmphbolaaG5
namespace Go.Proofs.Ytgiemldmphbolaa
open Go.RowKit
set_option maxHeartbeats 4000000 in
theorem curveOf_t {b : Nat → Nat} {x bb X Y Z T : Nat} {F G : Nat → Nat} (cP : (∀ w, Calls Try.prog 10 #[.agg (ck b)] w fun e w' => e = .returned (.tuple #[.agg (ces [x, bb]), .bool true]) ∧ Below w.heap.size w w')) (cR : (∀ w, Calls Try.prog 11 #[.agg (ck b)] w fun e w' => e = .returned (.tuple #[.agg (cis [X, Y, Z, T]), .bool true]) ∧ Below w.heap.size w w')) (cK : (∀ w, Calls Try.prog 12 #[.agg (ces [x, bb])] w fun e w' => e = .returned (.agg (ck F)) ∧ Below w.heap.size w w')) (cL : (∀ w, Calls Try.prog 13 #[.agg (cis [X, Y, Z, T])] w fun e w' => e = .returned (.agg (ck G)) ∧ Below w.heap.size w w')) (hFG : ∀ i, i < 32 → F i = G i) (hFb : ∀ i, i < 32 → F i = b i) (W0 : World) : Calls Try.prog 3 #[.agg (ck b)] W0 fun e w' => e = .returned (.bool true) ∧ Below W0.heap.size W0 w' := by
  refine sym_enter Try.func3 Try.ntmps3 rfl [.inl (.agg (ck b)), uu, uu, uu, uu, uu, uu, uu, uu, uu, uu, uu, uu, uu, uu, uu, uu, uu, uu, uu, uu, uu, uu, uu, uu, uu, uu, uu, uu, uu, uu, uu, uu, uu, uu, uu, uu, uu, uu] (by kernel_rfl) (by kernel_rfl) ?_
  intro β a h
  refine sym_seq ?_
  refine St.region h [.inl (.agg (ck b)), .inr (0, 0), .inl (.bool false), uu, uu, uu, uu, uu, uu, uu, uu, uu, uu, uu, uu, uu, uu, uu, uu, uu, uu, uu, uu, uu, uu, uu, uu, uu, uu, uu, uu, uu, uu, uu, uu, uu, uu, uu, uu] [(ck b, 23)] [(ck b, 23)] [#[]] [⟨some 0, none, none, false⟩, nn] (by kernel_rfl) (by kernel_rfl) (by kernel_rfl) (by kernel_rfl) (by kernel_rfl) (by kernel_rfl) (by kernel_rfl) (by kernel_rfl) ?_ ?_
  · refine ok_cons (ok_box (b := 0) (u := .agg (ck b)) (bxK (b := b)) rfl (by kernel_rfl) rfl (by kernel_rfl) (by kernel_rfl) (by kernel_rfl) (by kernel_rfl)) ?_
    refine ok_cons (ok_mv (Or.inr rfl) (by kernel_rfl) rfl (by kernel_rfl) (by kernel_rfl)) ?_
    exact ok_nil
  clear h; intro β a w h
  refine sym_then ?_
  refine sym_seq ?_
  refine sym_seq ?_
  refine St.region h [.inl (.agg (ck b)), .inr (0, 0), .inl (.bool false), uu, uu, uu, uu, .inl (.bool true), .inl (.bool false), uu, uu, uu, uu, uu, uu, uu, uu, uu, uu, uu, uu, uu, uu, uu, uu, uu, uu, uu, uu, uu, uu, uu, uu, uu, uu, uu, uu, uu, uu] [(ck b, 23)] [(ck b, 23)] [#[]] [nn, nn] (by kernel_rfl) (by kernel_rfl) (by kernel_rfl) (by kernel_rfl) (by kernel_rfl) (by kernel_rfl) (by kernel_rfl) (by kernel_rfl) ?_ ?_
  · refine ok_cons (ok_call (vs := #[]) (R := .bool true) alive_c rfl (by kernel_rfl) rfl (by kernel_rfl) (by kernel_rfl) (by kernel_rfl) (fun w => by kernel_rfl)) ?_
    refine ok_cons (ok_not (b := true) rfl (by kernel_rfl) rfl (by kernel_rfl) (by kernel_rfl) (by kernel_rfl)) ?_
    exact ok_nil
  clear h; intro β a w h
  refine sym_then ?_
  refine sym_cond_f h (by kernel_rfl) (by kernel_rfl) ?_
  refine wp_skip ?_
  refine sym_then ?_
  refine sym_seq ?_
  refine St.region h [.inl (.agg (ck b)), .inr (0, 0), .inl (.bool false), .inr (1, 0), .inl (.bool true), uu, uu, .inl (.bool true), .inl (.bool false), .inl (.tuple #[.agg (ces [x, bb]), .bool true]), .inl (.agg (ck b)), .inl (.tuple #[.agg (ces [x, bb]), .bool true]), .inl (.agg (ces [x, bb])), .inl (.bool true), uu, uu, uu, uu, uu, uu, uu, uu, uu, uu, uu, uu, uu, uu, uu, uu, uu, uu, uu, uu, uu, uu, uu, uu, uu] [(ck b, 23), (ces [x, bb], 31)] [(ck b, 23), (ces [0, 0], 31)] [#[], ces [x, bb]] [⟨none, none, some 0, false⟩, nn, nn, nn, nn, ⟨some 1, none, none, false⟩, ⟨none, some 1, none, false⟩, nn] (by kernel_rfl) (by kernel_rfl) (by kernel_rfl) (by kernel_rfl) (by kernel_rfl) (by kernel_rfl) (by kernel_rfl) (by kernel_rfl) ?_ ?_
  · refine ok_cons (ok_load (b := 0) (off := 0) (c := ck b) (v := .agg (ck b)) (ldK (b := b) 23) rfl (by kernel_rfl) rfl (by kernel_rfl) (by kernel_rfl) (by kernel_rfl)) ?_
    refine ok_cons (ok_call (vs := #[.agg (ck b)]) (R := .tuple #[.agg (ces [x, bb]), .bool true]) cP rfl (by kernel_rfl) rfl (by kernel_rfl) (by kernel_rfl) (by kernel_rfl) (fun w => by kernel_rfl)) ?_
    refine ok_cons (ok_mv (Or.inl rfl) (by kernel_rfl) rfl (by kernel_rfl) (by kernel_rfl)) ?_
    refine ok_cons (ok_ext (x1 := .tuple #[.agg (ces [x, bb]), .bool true]) (v := .agg (ces [x, bb])) (fun w => by kernel_rfl) rfl (by kernel_rfl) rfl (by kernel_rfl) (by kernel_rfl) (by kernel_rfl)) ?_
    refine ok_cons (ok_ext (x1 := .tuple #[.agg (ces [x, bb]), .bool true]) (v := .bool true) (fun w => by kernel_rfl) rfl (by kernel_rfl) rfl (by kernel_rfl) (by kernel_rfl) (by kernel_rfl)) ?_
    refine ok_cons (ok_alloc (b := 1) alP rfl (by kernel_rfl) rfl (by kernel_rfl) (by kernel_rfl)) ?_
    refine ok_cons (ok_store (b := 1) (off := 0) (u := .agg (ces [x, bb])) (c := ces [0, 0]) (n := ces [x, bb]) (stP (a := x) (b := bb) (c := ces [0, 0]) 31 (by rw [ces_size]; rfl)) rfl (by kernel_rfl) rfl (by kernel_rfl) (by kernel_rfl) (by kernel_rfl) (by kernel_rfl) (by kernel_rfl)) ?_
    refine ok_cons (ok_mv (Or.inr rfl) (by kernel_rfl) rfl (by kernel_rfl) (by kernel_rfl)) ?_
    exact ok_nil
  clear h; intro β a w h
  refine sym_then ?_
  refine sym_seq ?_
  refine St.region h [.inl (.agg (ck b)), .inr (0, 0), .inl (.bool false), .inr (1, 0), .inl (.bool true), .inr (2, 0), .inl (.bool true), .inl (.bool true), .inl (.bool false), .inl (.tuple #[.agg (ces [x, bb]), .bool true]), .inl (.agg (ck b)), .inl (.tuple #[.agg (ces [x, bb]), .bool true]), .inl (.agg (ces [x, bb])), .inl (.bool true), .inl (.tuple #[.agg (cis [X, Y, Z, T]), .bool true]), .inl (.agg (ck b)), .inl (.tuple #[.agg (cis [X, Y, Z, T]), .bool true]), .inl (.agg (cis [X, Y, Z, T])), .inl (.bool true), uu, uu, uu, uu, uu, uu, uu, uu, uu, uu, uu, uu, uu, uu, uu, uu, uu, uu, uu, uu] [(ck b, 23), (ces [x, bb], 31), (cis [X, Y, Z, T], 37)] [(ck b, 23), (ces [x, bb], 31), (cis [0, 0, 0, 0], 37)] [#[], #[], cis [X, Y, Z, T]] [⟨none, none, some 0, false⟩, nn, nn, nn, nn, ⟨some 2, none, none, false⟩, ⟨none, some 2, none, false⟩, nn] (by kernel_rfl) (by kernel_rfl) (by kernel_rfl) (by kernel_rfl) (by kernel_rfl) (by kernel_rfl) (by kernel_rfl) (by kernel_rfl) ?_ ?_
  · refine ok_cons (ok_load (b := 0) (off := 0) (c := ck b) (v := .agg (ck b)) (ldK (b := b) 23) rfl (by kernel_rfl) rfl (by kernel_rfl) (by kernel_rfl) (by kernel_rfl)) ?_
    refine ok_cons (ok_call (vs := #[.agg (ck b)]) (R := .tuple #[.agg (cis [X, Y, Z, T]), .bool true]) cR rfl (by kernel_rfl) rfl (by kernel_rfl) (by kernel_rfl) (by kernel_rfl) (fun w => by kernel_rfl)) ?_
    refine ok_cons (ok_mv (Or.inl rfl) (by kernel_rfl) rfl (by kernel_rfl) (by kernel_rfl)) ?_
    refine ok_cons (ok_ext (x1 := .tuple #[.agg (cis [X, Y, Z, T]), .bool true]) (v := .agg (cis [X, Y, Z, T])) (fun w => by kernel_rfl) rfl (by kernel_rfl) rfl (by kernel_rfl) (by kernel_rfl) (by kernel_rfl)) ?_
    refine ok_cons (ok_ext (x1 := .tuple #[.agg (cis [X, Y, Z, T]), .bool true]) (v := .bool true) (fun w => by kernel_rfl) rfl (by kernel_rfl) rfl (by kernel_rfl) (by kernel_rfl) (by kernel_rfl)) ?_
    refine ok_cons (ok_alloc (b := 2) alR rfl (by kernel_rfl) rfl (by kernel_rfl) (by kernel_rfl)) ?_
    refine ok_cons (ok_store (b := 2) (off := 0) (u := .agg (cis [X, Y, Z, T])) (c := cis [0, 0, 0, 0]) (n := cis [X, Y, Z, T]) (stR (a := X) (b := Y) (c := Z) (d := T) (e := cis [0, 0, 0, 0]) 37 (by rw [cis_size]; rfl)) rfl (by kernel_rfl) rfl (by kernel_rfl) (by kernel_rfl) (by kernel_rfl) (by kernel_rfl) (by kernel_rfl)) ?_
    refine ok_cons (ok_mv (Or.inr rfl) (by kernel_rfl) rfl (by kernel_rfl) (by kernel_rfl)) ?_
    exact ok_nil
  clear h; intro β a w h
  refine sym_then ?_
  refine sym_seq ?_
  refine St.region h [.inl (.agg (ck b)), .inr (0, 0), .inl (.bool true), .inr (1, 0), .inl (.bool true), .inr (2, 0), .inl (.bool true), .inl (.bool true), .inl (.bool false), .inl (.tuple #[.agg (ces [x, bb]), .bool true]), .inl (.agg (ck b)), .inl (.tuple #[.agg (ces [x, bb]), .bool true]), .inl (.agg (ces [x, bb])), .inl (.bool true), .inl (.tuple #[.agg (cis [X, Y, Z, T]), .bool true]), .inl (.agg (ck b)), .inl (.tuple #[.agg (cis [X, Y, Z, T]), .bool true]), .inl (.agg (cis [X, Y, Z, T])), .inl (.bool true), .inl (.bool true), .inl (.bool true), .inl (.bool true), .inl (.bool true), .inl (.agg (ces [x, bb])), .inl (.agg (ck F)), .inl (.agg (cis [X, Y, Z, T])), .inl (.agg (ck G)), .inl (.bool true), .inl (.bool true), .inl (.bool true), .inl (.bool true), .inl (.bool false), .inl (.bool false), .inl (.agg (ces [x, bb])), .inl (.agg (ck F)), .inl (.agg (ck b)), .inl (.bool true), .inl (.bool true), .inl (.bool true)] [(ck b, 23), (ces [x, bb], 31), (cis [X, Y, Z, T], 37)] [(ck b, 23), (ces [x, bb], 31), (cis [X, Y, Z, T], 37)] [#[], #[], #[]] [nn, nn, nn, nn, ⟨none, none, some 1, false⟩, nn, ⟨none, none, some 2, false⟩, nn, nn, nn, nn, nn, nn, nn, ⟨none, none, some 1, false⟩, nn, ⟨none, none, some 0, false⟩, nn, nn, nn, nn] (by kernel_rfl) (by kernel_rfl) (by kernel_rfl) (by kernel_rfl) (by kernel_rfl) (by kernel_rfl) (by kernel_rfl) (by kernel_rfl) ?_ ?_
  · refine ok_cons (ok_mv (Or.inl rfl) (by kernel_rfl) rfl (by kernel_rfl) (by kernel_rfl)) ?_
    refine ok_cons (ok_mv (Or.inl rfl) (by kernel_rfl) rfl (by kernel_rfl) (by kernel_rfl)) ?_
    refine ok_cons (ok_bin (x1 := .bool true) (u1 := .bool true) (v := .bool true) (fun w => by kernel_rfl) rfl (by kernel_rfl) rfl (by kernel_rfl) (by kernel_rfl) (by kernel_rfl) (by kernel_rfl) (by kernel_rfl)) ?_
    refine ok_cons (ok_mv (Or.inl rfl) (by kernel_rfl) rfl (by kernel_rfl) (by kernel_rfl)) ?_
    refine ok_cons (ok_load (b := 1) (off := 0) (c := ces [x, bb]) (v := .agg (ces [x, bb])) (ldP (a := x) (b := bb) 31) rfl (by kernel_rfl) rfl (by kernel_rfl) (by kernel_rfl) (by kernel_rfl)) ?_
    refine ok_cons (ok_call (vs := #[.agg (ces [x, bb])]) (R := .agg (ck F)) cK rfl (by kernel_rfl) rfl (by kernel_rfl) (by kernel_rfl) (by kernel_rfl) (fun w => by kernel_rfl)) ?_
    refine ok_cons (ok_load (b := 2) (off := 0) (c := cis [X, Y, Z, T]) (v := .agg (cis [X, Y, Z, T])) (ldR (a := X) (b := Y) (c := Z) (d := T) 37) rfl (by kernel_rfl) rfl (by kernel_rfl) (by kernel_rfl) (by kernel_rfl)) ?_
    refine ok_cons (ok_call (vs := #[.agg (cis [X, Y, Z, T])]) (R := .agg (ck G)) cL rfl (by kernel_rfl) rfl (by kernel_rfl) (by kernel_rfl) (by kernel_rfl) (fun w => by kernel_rfl)) ?_
    refine ok_cons (ok_bin (x1 := .agg (ck F)) (u1 := .agg (ck G)) (v := .bool true) (eqK_t (F := F) (G := G) hFG) rfl (by kernel_rfl) rfl (by kernel_rfl) (by kernel_rfl) (by kernel_rfl) (by kernel_rfl) (by kernel_rfl)) ?_
    refine ok_cons (ok_pick_t rfl (by kernel_rfl) rfl (by kernel_rfl) (by kernel_rfl) (by kernel_rfl) (by kernel_rfl)) ?_
    refine ok_cons (ok_mv (Or.inl rfl) (by kernel_rfl) rfl (by kernel_rfl) (by kernel_rfl)) ?_
    refine ok_cons (ok_mv (Or.inl rfl) (by kernel_rfl) rfl (by kernel_rfl) (by kernel_rfl)) ?_
    refine ok_cons (ok_not (b := true) rfl (by kernel_rfl) rfl (by kernel_rfl) (by kernel_rfl) (by kernel_rfl)) ?_
    refine ok_cons (ok_mv (Or.inl rfl) (by kernel_rfl) rfl (by kernel_rfl) (by kernel_rfl)) ?_
    refine ok_cons (ok_load (b := 1) (off := 0) (c := ces [x, bb]) (v := .agg (ces [x, bb])) (ldP (a := x) (b := bb) 31) rfl (by kernel_rfl) rfl (by kernel_rfl) (by kernel_rfl) (by kernel_rfl)) ?_
    refine ok_cons (ok_call (vs := #[.agg (ces [x, bb])]) (R := .agg (ck F)) cK rfl (by kernel_rfl) rfl (by kernel_rfl) (by kernel_rfl) (by kernel_rfl) (fun w => by kernel_rfl)) ?_
    refine ok_cons (ok_load (b := 0) (off := 0) (c := ck b) (v := .agg (ck b)) (ldK (b := b) 23) rfl (by kernel_rfl) rfl (by kernel_rfl) (by kernel_rfl) (by kernel_rfl)) ?_
    refine ok_cons (ok_bin (x1 := .agg (ck F)) (u1 := .agg (ck b)) (v := .bool true) (eqK_t (F := F) (G := b) hFb) rfl (by kernel_rfl) rfl (by kernel_rfl) (by kernel_rfl) (by kernel_rfl) (by kernel_rfl) (by kernel_rfl)) ?_
    refine ok_cons (ok_pick_f rfl (by kernel_rfl) rfl (by kernel_rfl) (by kernel_rfl) (by kernel_rfl) (by kernel_rfl)) ?_
    refine ok_cons (ok_pick_t rfl (by kernel_rfl) rfl (by kernel_rfl) (by kernel_rfl) (by kernel_rfl) (by kernel_rfl)) ?_
    refine ok_cons (ok_mv (Or.inr rfl) (by kernel_rfl) rfl (by kernel_rfl) (by kernel_rfl)) ?_
    exact ok_nil
  clear h; intro β a w h
  refine sym_then ?_
  refine wp_ret ?_
  exact sym_ret h Try.results3 (by kernel_rfl) (by kernel_rfl) (fun hb => ⟨rfl, hb⟩)
set_option maxHeartbeats 4000000 in
theorem curveOf_f {b : Nat → Nat} {x bb X Y Z T : Nat} {F G : Nat → Nat} (cP : (∀ w, Calls Try.prog 10 #[.agg (ck b)] w fun e w' => e = .returned (.tuple #[.agg (ces [x, bb]), .bool false]) ∧ Below w.heap.size w w')) (cR : (∀ w, Calls Try.prog 11 #[.agg (ck b)] w fun e w' => e = .returned (.tuple #[.agg (cis [X, Y, Z, T]), .bool false]) ∧ Below w.heap.size w w')) (cK : (∀ w, Calls Try.prog 12 #[.agg (ces [x, bb])] w fun e w' => e = .returned (.agg (ck F)) ∧ Below w.heap.size w w')) (cL : (∀ w, Calls Try.prog 13 #[.agg (cis [X, Y, Z, T])] w fun e w' => e = .returned (.agg (ck G)) ∧ Below w.heap.size w w')) (hFG : ∀ i, i < 32 → F i = G i) (W0 : World) : Calls Try.prog 3 #[.agg (ck b)] W0 fun e w' => e = .returned (.bool true) ∧ Below W0.heap.size W0 w' := by
  refine sym_enter Try.func3 Try.ntmps3 rfl [.inl (.agg (ck b)), uu, uu, uu, uu, uu, uu, uu, uu, uu, uu, uu, uu, uu, uu, uu, uu, uu, uu, uu, uu, uu, uu, uu, uu, uu, uu, uu, uu, uu, uu, uu, uu, uu, uu, uu, uu, uu, uu] (by kernel_rfl) (by kernel_rfl) ?_
  intro β a h
  refine sym_seq ?_
  refine St.region h [.inl (.agg (ck b)), .inr (0, 0), .inl (.bool false), uu, uu, uu, uu, uu, uu, uu, uu, uu, uu, uu, uu, uu, uu, uu, uu, uu, uu, uu, uu, uu, uu, uu, uu, uu, uu, uu, uu, uu, uu, uu, uu, uu, uu, uu, uu] [(ck b, 23)] [(ck b, 23)] [#[]] [⟨some 0, none, none, false⟩, nn] (by kernel_rfl) (by kernel_rfl) (by kernel_rfl) (by kernel_rfl) (by kernel_rfl) (by kernel_rfl) (by kernel_rfl) (by kernel_rfl) ?_ ?_
  · refine ok_cons (ok_box (b := 0) (u := .agg (ck b)) (bxK (b := b)) rfl (by kernel_rfl) rfl (by kernel_rfl) (by kernel_rfl) (by kernel_rfl) (by kernel_rfl)) ?_
    refine ok_cons (ok_mv (Or.inr rfl) (by kernel_rfl) rfl (by kernel_rfl) (by kernel_rfl)) ?_
    exact ok_nil
  clear h; intro β a w h
  refine sym_then ?_
  refine sym_seq ?_
  refine sym_seq ?_
  refine St.region h [.inl (.agg (ck b)), .inr (0, 0), .inl (.bool false), uu, uu, uu, uu, .inl (.bool true), .inl (.bool false), uu, uu, uu, uu, uu, uu, uu, uu, uu, uu, uu, uu, uu, uu, uu, uu, uu, uu, uu, uu, uu, uu, uu, uu, uu, uu, uu, uu, uu, uu] [(ck b, 23)] [(ck b, 23)] [#[]] [nn, nn] (by kernel_rfl) (by kernel_rfl) (by kernel_rfl) (by kernel_rfl) (by kernel_rfl) (by kernel_rfl) (by kernel_rfl) (by kernel_rfl) ?_ ?_
  · refine ok_cons (ok_call (vs := #[]) (R := .bool true) alive_c rfl (by kernel_rfl) rfl (by kernel_rfl) (by kernel_rfl) (by kernel_rfl) (fun w => by kernel_rfl)) ?_
    refine ok_cons (ok_not (b := true) rfl (by kernel_rfl) rfl (by kernel_rfl) (by kernel_rfl) (by kernel_rfl)) ?_
    exact ok_nil
  clear h; intro β a w h
  refine sym_then ?_
  refine sym_cond_f h (by kernel_rfl) (by kernel_rfl) ?_
  refine wp_skip ?_
  refine sym_then ?_
  refine sym_seq ?_
  refine St.region h [.inl (.agg (ck b)), .inr (0, 0), .inl (.bool false), .inr (1, 0), .inl (.bool false), uu, uu, .inl (.bool true), .inl (.bool false), .inl (.tuple #[.agg (ces [x, bb]), .bool false]), .inl (.agg (ck b)), .inl (.tuple #[.agg (ces [x, bb]), .bool false]), .inl (.agg (ces [x, bb])), .inl (.bool false), uu, uu, uu, uu, uu, uu, uu, uu, uu, uu, uu, uu, uu, uu, uu, uu, uu, uu, uu, uu, uu, uu, uu, uu, uu] [(ck b, 23), (ces [x, bb], 31)] [(ck b, 23), (ces [0, 0], 31)] [#[], ces [x, bb]] [⟨none, none, some 0, false⟩, nn, nn, nn, nn, ⟨some 1, none, none, false⟩, ⟨none, some 1, none, false⟩, nn] (by kernel_rfl) (by kernel_rfl) (by kernel_rfl) (by kernel_rfl) (by kernel_rfl) (by kernel_rfl) (by kernel_rfl) (by kernel_rfl) ?_ ?_
  · refine ok_cons (ok_load (b := 0) (off := 0) (c := ck b) (v := .agg (ck b)) (ldK (b := b) 23) rfl (by kernel_rfl) rfl (by kernel_rfl) (by kernel_rfl) (by kernel_rfl)) ?_
    refine ok_cons (ok_call (vs := #[.agg (ck b)]) (R := .tuple #[.agg (ces [x, bb]), .bool false]) cP rfl (by kernel_rfl) rfl (by kernel_rfl) (by kernel_rfl) (by kernel_rfl) (fun w => by kernel_rfl)) ?_
    refine ok_cons (ok_mv (Or.inl rfl) (by kernel_rfl) rfl (by kernel_rfl) (by kernel_rfl)) ?_
    refine ok_cons (ok_ext (x1 := .tuple #[.agg (ces [x, bb]), .bool false]) (v := .agg (ces [x, bb])) (fun w => by kernel_rfl) rfl (by kernel_rfl) rfl (by kernel_rfl) (by kernel_rfl) (by kernel_rfl)) ?_
    refine ok_cons (ok_ext (x1 := .tuple #[.agg (ces [x, bb]), .bool false]) (v := .bool false) (fun w => by kernel_rfl) rfl (by kernel_rfl) rfl (by kernel_rfl) (by kernel_rfl) (by kernel_rfl)) ?_
    refine ok_cons (ok_alloc (b := 1) alP rfl (by kernel_rfl) rfl (by kernel_rfl) (by kernel_rfl)) ?_
    refine ok_cons (ok_store (b := 1) (off := 0) (u := .agg (ces [x, bb])) (c := ces [0, 0]) (n := ces [x, bb]) (stP (a := x) (b := bb) (c := ces [0, 0]) 31 (by rw [ces_size]; rfl)) rfl (by kernel_rfl) rfl (by kernel_rfl) (by kernel_rfl) (by kernel_rfl) (by kernel_rfl) (by kernel_rfl)) ?_
    refine ok_cons (ok_mv (Or.inr rfl) (by kernel_rfl) rfl (by kernel_rfl) (by kernel_rfl)) ?_
    exact ok_nil
  clear h; intro β a w h
  refine sym_then ?_
  refine sym_seq ?_
  refine St.region h [.inl (.agg (ck b)), .inr (0, 0), .inl (.bool false), .inr (1, 0), .inl (.bool false), .inr (2, 0), .inl (.bool false), .inl (.bool true), .inl (.bool false), .inl (.tuple #[.agg (ces [x, bb]), .bool false]), .inl (.agg (ck b)), .inl (.tuple #[.agg (ces [x, bb]), .bool false]), .inl (.agg (ces [x, bb])), .inl (.bool false), .inl (.tuple #[.agg (cis [X, Y, Z, T]), .bool false]), .inl (.agg (ck b)), .inl (.tuple #[.agg (cis [X, Y, Z, T]), .bool false]), .inl (.agg (cis [X, Y, Z, T])), .inl (.bool false), uu, uu, uu, uu, uu, uu, uu, uu, uu, uu, uu, uu, uu, uu, uu, uu, uu, uu, uu, uu] [(ck b, 23), (ces [x, bb], 31), (cis [X, Y, Z, T], 37)] [(ck b, 23), (ces [x, bb], 31), (cis [0, 0, 0, 0], 37)] [#[], #[], cis [X, Y, Z, T]] [⟨none, none, some 0, false⟩, nn, nn, nn, nn, ⟨some 2, none, none, false⟩, ⟨none, some 2, none, false⟩, nn] (by kernel_rfl) (by kernel_rfl) (by kernel_rfl) (by kernel_rfl) (by kernel_rfl) (by kernel_rfl) (by kernel_rfl) (by kernel_rfl) ?_ ?_
  · refine ok_cons (ok_load (b := 0) (off := 0) (c := ck b) (v := .agg (ck b)) (ldK (b := b) 23) rfl (by kernel_rfl) rfl (by kernel_rfl) (by kernel_rfl) (by kernel_rfl)) ?_
    refine ok_cons (ok_call (vs := #[.agg (ck b)]) (R := .tuple #[.agg (cis [X, Y, Z, T]), .bool false]) cR rfl (by kernel_rfl) rfl (by kernel_rfl) (by kernel_rfl) (by kernel_rfl) (fun w => by kernel_rfl)) ?_
    refine ok_cons (ok_mv (Or.inl rfl) (by kernel_rfl) rfl (by kernel_rfl) (by kernel_rfl)) ?_
    refine ok_cons (ok_ext (x1 := .tuple #[.agg (cis [X, Y, Z, T]), .bool false]) (v := .agg (cis [X, Y, Z, T])) (fun w => by kernel_rfl) rfl (by kernel_rfl) rfl (by kernel_rfl) (by kernel_rfl) (by kernel_rfl)) ?_
    refine ok_cons (ok_ext (x1 := .tuple #[.agg (cis [X, Y, Z, T]), .bool false]) (v := .bool false) (fun w => by kernel_rfl) rfl (by kernel_rfl) rfl (by kernel_rfl) (by kernel_rfl) (by kernel_rfl)) ?_
    refine ok_cons (ok_alloc (b := 2) alR rfl (by kernel_rfl) rfl (by kernel_rfl) (by kernel_rfl)) ?_
    refine ok_cons (ok_store (b := 2) (off := 0) (u := .agg (cis [X, Y, Z, T])) (c := cis [0, 0, 0, 0]) (n := cis [X, Y, Z, T]) (stR (a := X) (b := Y) (c := Z) (d := T) (e := cis [0, 0, 0, 0]) 37 (by rw [cis_size]; rfl)) rfl (by kernel_rfl) rfl (by kernel_rfl) (by kernel_rfl) (by kernel_rfl) (by kernel_rfl) (by kernel_rfl)) ?_
    refine ok_cons (ok_mv (Or.inr rfl) (by kernel_rfl) rfl (by kernel_rfl) (by kernel_rfl)) ?_
    exact ok_nil
  clear h; intro β a w h
  refine sym_then ?_
  refine sym_seq ?_
  refine St.region h [.inl (.agg (ck b)), .inr (0, 0), .inl (.bool true), .inr (1, 0), .inl (.bool false), .inr (2, 0), .inl (.bool false), .inl (.bool true), .inl (.bool false), .inl (.tuple #[.agg (ces [x, bb]), .bool false]), .inl (.agg (ck b)), .inl (.tuple #[.agg (ces [x, bb]), .bool false]), .inl (.agg (ces [x, bb])), .inl (.bool false), .inl (.tuple #[.agg (cis [X, Y, Z, T]), .bool false]), .inl (.agg (ck b)), .inl (.tuple #[.agg (cis [X, Y, Z, T]), .bool false]), .inl (.agg (cis [X, Y, Z, T])), .inl (.bool false), .inl (.bool false), .inl (.bool false), .inl (.bool true), .inl (.bool true), .inl (.agg (ces [x, bb])), .inl (.agg (ck F)), .inl (.agg (cis [X, Y, Z, T])), .inl (.agg (ck G)), .inl (.bool true), .inl (.bool true), .inl (.bool true), .inl (.bool false), .inl (.bool true), .inl (.bool true), uu, uu, uu, uu, .inl (.bool true), .inl (.bool true)] [(ck b, 23), (ces [x, bb], 31), (cis [X, Y, Z, T], 37)] [(ck b, 23), (ces [x, bb], 31), (cis [X, Y, Z, T], 37)] [#[], #[], #[]] [nn, nn, nn, nn, ⟨none, none, some 1, false⟩, nn, ⟨none, none, some 2, false⟩, nn, nn, nn, nn, nn, nn, nn, nn, nn, nn, nn, nn, nn, nn] (by kernel_rfl) (by kernel_rfl) (by kernel_rfl) (by kernel_rfl) (by kernel_rfl) (by kernel_rfl) (by kernel_rfl) (by kernel_rfl) ?_ ?_
  · refine ok_cons (ok_mv (Or.inl rfl) (by kernel_rfl) rfl (by kernel_rfl) (by kernel_rfl)) ?_
    refine ok_cons (ok_mv (Or.inl rfl) (by kernel_rfl) rfl (by kernel_rfl) (by kernel_rfl)) ?_
    refine ok_cons (ok_bin (x1 := .bool false) (u1 := .bool false) (v := .bool true) (fun w => by kernel_rfl) rfl (by kernel_rfl) rfl (by kernel_rfl) (by kernel_rfl) (by kernel_rfl) (by kernel_rfl) (by kernel_rfl)) ?_
    refine ok_cons (ok_mv (Or.inl rfl) (by kernel_rfl) rfl (by kernel_rfl) (by kernel_rfl)) ?_
    refine ok_cons (ok_load (b := 1) (off := 0) (c := ces [x, bb]) (v := .agg (ces [x, bb])) (ldP (a := x) (b := bb) 31) rfl (by kernel_rfl) rfl (by kernel_rfl) (by kernel_rfl) (by kernel_rfl)) ?_
    refine ok_cons (ok_call (vs := #[.agg (ces [x, bb])]) (R := .agg (ck F)) cK rfl (by kernel_rfl) rfl (by kernel_rfl) (by kernel_rfl) (by kernel_rfl) (fun w => by kernel_rfl)) ?_
    refine ok_cons (ok_load (b := 2) (off := 0) (c := cis [X, Y, Z, T]) (v := .agg (cis [X, Y, Z, T])) (ldR (a := X) (b := Y) (c := Z) (d := T) 37) rfl (by kernel_rfl) rfl (by kernel_rfl) (by kernel_rfl) (by kernel_rfl)) ?_
    refine ok_cons (ok_call (vs := #[.agg (cis [X, Y, Z, T])]) (R := .agg (ck G)) cL rfl (by kernel_rfl) rfl (by kernel_rfl) (by kernel_rfl) (by kernel_rfl) (fun w => by kernel_rfl)) ?_
    refine ok_cons (ok_bin (x1 := .agg (ck F)) (u1 := .agg (ck G)) (v := .bool true) (eqK_t (F := F) (G := G) hFG) rfl (by kernel_rfl) rfl (by kernel_rfl) (by kernel_rfl) (by kernel_rfl) (by kernel_rfl) (by kernel_rfl)) ?_
    refine ok_cons (ok_pick_t rfl (by kernel_rfl) rfl (by kernel_rfl) (by kernel_rfl) (by kernel_rfl) (by kernel_rfl)) ?_
    refine ok_cons (ok_mv (Or.inl rfl) (by kernel_rfl) rfl (by kernel_rfl) (by kernel_rfl)) ?_
    refine ok_cons (ok_mv (Or.inl rfl) (by kernel_rfl) rfl (by kernel_rfl) (by kernel_rfl)) ?_
    refine ok_cons (ok_not (b := false) rfl (by kernel_rfl) rfl (by kernel_rfl) (by kernel_rfl) (by kernel_rfl)) ?_
    refine ok_cons (ok_mv (Or.inl rfl) (by kernel_rfl) rfl (by kernel_rfl) (by kernel_rfl)) ?_
    refine ok_cons (ok_skip (by kernel_rfl) rfl (by kernel_rfl)) ?_
    refine ok_cons (ok_skip (by kernel_rfl) rfl (by kernel_rfl)) ?_
    refine ok_cons (ok_skip (by kernel_rfl) rfl (by kernel_rfl)) ?_
    refine ok_cons (ok_skip (by kernel_rfl) rfl (by kernel_rfl)) ?_
    refine ok_cons (ok_pick_t rfl (by kernel_rfl) rfl (by kernel_rfl) (by kernel_rfl) (by kernel_rfl) (by kernel_rfl)) ?_
    refine ok_cons (ok_pick_t rfl (by kernel_rfl) rfl (by kernel_rfl) (by kernel_rfl) (by kernel_rfl) (by kernel_rfl)) ?_
    refine ok_cons (ok_mv (Or.inr rfl) (by kernel_rfl) rfl (by kernel_rfl) (by kernel_rfl)) ?_
    exact ok_nil
  clear h; intro β a w h
  refine sym_then ?_
  refine wp_ret ?_
  exact sym_ret h Try.results3 (by kernel_rfl) (by kernel_rfl) (fun hb => ⟨rfl, hb⟩)
theorem inv_1 : inv 1 = 1 := by decide +kernel
theorem mu_1 {m : Nat} (h : m < pp) : mu m (inv 1) = m := by rw [inv_1]; unfold mu; rw [Nat.mul_one, Nat.mod_eq_of_lt h]
theorem ad_sb {y : Nat} (h : y < pp) : ad (sb y 1) 1 = y := by
  unfold ad sb
  have := one_ltp
  rw [Nat.mod_add_mod, show y + (pp - 1) + 1 = y + pp by omega, Nat.add_mod_right, Nat.mod_eq_of_lt h]
theorem sb_odd {r : Nat} (hr : r < pp) (h0 : r ≠ 0) (he : r % 2 = 0) : sb 0 r % 2 = 1 := by
  have e : sb 0 r = pp - r := by
    unfold sb
    rw [Nat.zero_add]; exact Nat.mod_eq_of_lt (by omega)
  rw [e]
  have := pp_odd
  omega
theorem key_zero {b : Nat → Nat} (cP : (∀ w, Calls Try.prog 10 #[.agg (ck b)] w fun e w' => e = .returned (.tuple #[.agg (ces [0, 0]), .bool false]) ∧ Below w.heap.size w w')) (cR : (∀ w, Calls Try.prog 11 #[.agg (ck b)] w fun e w' => e = .returned (.tuple #[.agg (cis [0, 1, 1, 0]), .bool false]) ∧ Below w.heap.size w w')) (W0 : World) : Calls Try.prog 3 #[.agg (ck b)] W0 fun e w' => e = .returned (.bool true) ∧ Below W0.heap.size W0 w' := by
  have e1 : ad 0 1 = 1 := by decide +kernel
  have cK := fun w => pkey_e (x := 0) (b := 0) zero_ltp zero_ltp rfl w
  have cL := fun w => rkey_e (x1 := 0) (y1 := 1) (z1 := 1) (t1 := 0) zero_ltp one_ltp one_ltp (by decide +kernel) w
  rw [e1] at cK
  rw [mu_1 one_ltp] at cL
  exact curveOf_f cP cR cK cL (byt_kb 1) W0
theorem curveOf_walk (b : Nat → Nat) (hb : ∀ i, b i < 256) (W0 : World) : Calls Try.prog 3 #[.agg (ck b)] W0 fun e w' => e = .returned (.bool true) ∧ Below W0.heap.size W0 w' := by
  have hc : ∀ i, (updN b 31 (b 31 % 128)) i < 256 := by
    intro i
    unfold updN
    split
    · exact Nat.lt_trans (Nat.mod_lt _ (by omega)) (by omega)
    · exact hb i
  have cO := fun w => of_k hc w
  have cO' := fun w => of_r hc w
  have hy := ofb_lt (updN b 31 (b 31 % 128))
  generalize ofb (updN b 31 (b 31 % 128)) = y at *
  obtain ⟨r, k, hr, hs, cU, cV⟩ := root_b2 (mu_lt (sb (mu y y) 1) (inv (ad (mu dN (mu y y)) 1)))
  have cE := fun w => evenX_r hy cU w
  by_cases hkey : ∀ i, i < 32 → byt (dig y) i = (updN b 31 (b 31 % 128)) i
  · have hkey' : ∀ i, i < 32 → kb y i = (updN b 31 (b 31 % 128)) i := fun i hi => by rw [← byt_kb y i hi]; exact hkey i hi
    cases k with
    | false =>
      refine key_zero (fun w => ?_) (fun w => rof_x hb hy cO' hkey' cV w) W0
      rcases Nat.lt_or_ge (b 31) 128 with hod | hod
      · exact of_xe hb hy cO hkey cE hod w
      · exact of_xo hb hy cO hkey cE hod w
    | true =>
      obtain ⟨hev, -⟩ := hs rfl
      rcases Nat.lt_or_ge (b 31) 128 with hod | hod
      · have cP := fun w => of_e hb hy cO hkey cE hod w
        have cR := fun w => rof_e hb hy cO' hkey' cV hr hod w
        have cK := fun w => pkey_e (x := r) (b := sb y 1) hr (sb_lt _ _) hev w
        have cL := fun w => rkey_e (x1 := r) (y1 := y) (z1 := 1) (t1 := mu r y) hr hy one_ltp (by rw [mu_1 hr]; exact hev) w
        rw [ad_sb hy] at cK
        rw [mu_1 hy] at cL
        refine curveOf_t cP cR cK cL (byt_kb y) (fun i hi => ?_) W0
        rw [hkey i hi]
        unfold updN
        split
        · rename_i e; subst e; exact Nat.mod_eq_of_lt hod
        · rfl
      · by_cases hz : r = 0
        · exact key_zero (fun w => of_z hb hy cO hkey cE hr hz hod w) (fun w => rof_z hb hy cO' hkey' cV hz hod w) W0
        · have cP := fun w => of_o hb hy cO hkey cE hr hz hod w
          have cR := fun w => rof_o hb hy cO' hkey' cV hr hz hod w
          have ho := sb_odd hr hz hev
          have cK := fun w => pkey_o (x := sb 0 r) (b := sb y 1) (sb_lt _ _) (sb_lt _ _) (by omega) w
          have cL := fun w => rkey_o (x1 := sb 0 r) (y1 := y) (z1 := 1) (t1 := mu (sb 0 r) y) (sb_lt _ _) hy one_ltp (by rw [mu_1 (sb_lt _ _)]; exact ho) w
          rw [ad_sb hy] at cK
          rw [mu_1 hy] at cL
          refine curveOf_t cP cR cK cL (fun i hi => ?_) (fun i hi => ?_) W0
          · unfold updN
            split
            · rw [byt_kb y 31 (by omega)]
            · exact byt_kb y i hi
          · have h31 := hkey 31 (by omega)
            have hb31 := hb 31
            have e31 : (updN b 31 (b 31 % 128)) 31 = b 31 % 128 := by simp [updN]
            rw [e31] at h31
            by_cases e : i = 31
            · subst e
              show updN _ 31 _ 31 = _
              unfold updN
              rw [if_pos rfl, h31]; omega
            · have h1 := hkey i hi
              unfold updN at h1 ⊢
              rw [if_neg e] at h1 ⊢
              exact h1
  · have hkey' : ¬ ∀ i, i < 32 → kb y i = (updN b 31 (b 31 % 128)) i := fun h => hkey fun i hi => by rw [byt_kb y i hi]; exact h i hi
    refine key_zero (fun w => ?_) (fun w => rof_n hb hy cO' hkey' w) W0
    rcases Nat.lt_or_ge (b 31) 128 with hod | hod
    · exact of_ne hb hy cO hkey hod w
    · exact of_no hb hy cO hkey hod w
end Go.Proofs.Ytgiemldmphbolaa

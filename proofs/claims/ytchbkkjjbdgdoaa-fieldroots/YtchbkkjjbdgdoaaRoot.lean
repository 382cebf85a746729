/- The contract of Root: the even root, or none. -/
import Derived.Test.YtchbkkjjbdgdoaaM2
namespace Go.Proofs.Ytchbkkjjbdgdoaa
open Go.RowKit

theorem root_no {m y : Nat} (c1 : ∀ w, Calls Try.prog 41 #[el (dig m)] w fun e w' => e = .returned (.tuple #[el (dig y), .bool false]) ∧ Below w.heap.size w w') (w : World) :
    Calls Try.prog 25 #[el (dig m)] w fun e w' => e = .returned (.tuple #[el (dig 0), .bool false]) ∧ Below w.heap.size w w' := by
    refine sym_enter Try.func25 Try.ntmps25 rfl [.inl (el (dig m)), .inl undef, .inl undef, .inl undef, .inl undef, .inl undef, .inl undef, .inl undef, .inl undef, .inl undef, .inl undef, .inl undef, .inl undef, .inl undef, .inl undef, .inl undef, .inl undef, .inl undef, .inl undef, .inl undef, .inl undef] (by kernel_rfl) (by kernel_rfl) ?_
    intro β a h
    refine sym_seq ?_
    refine St.region h [.inl (el (dig m)), .inr (0, 0), .inr (1, 0), .inl (.bool false), .inl undef, .inl undef, .inl undef, .inl undef, .inl undef, .inl undef, .inl undef, .inl undef, .inl undef, .inl undef, .inl undef, .inl undef, .inl undef, .inl undef, .inl undef, .inl undef, .inl undef] [.inl (el (dig m)), .inl undef, .inl undef, .inl undef, .inl undef, .inl undef, .inl undef, .inl undef, .inl undef, .inl undef, .inl undef, .inl undef, .inl undef, .inl undef, .inl undef, .inl undef, .inl undef, .inl undef, .inl undef, .inl undef, .inl undef] [(ce m, 33), (ce 0, 33)] [(ce m, 33), (ce 0, 33)] [#[], #[]] [⟨some 0, none, none, false⟩, ⟨some 1, none, none, false⟩, ⟨none, none, none, false⟩] (by kernel_rfl) (by kernel_rfl) (by kernel_rfl) (by kernel_rfl) (by kernel_rfl) (by kernel_rfl) (by kernel_rfl) (by kernel_rfl) (by kernel_rfl) ?_ ?_
    · refine ok_cons (ok_box (b := 0) (u := el (dig m)) (bxE (n := m)) rfl (by kernel_rfl) rfl (by kernel_rfl) (by kernel_rfl) (by kernel_rfl) (by kernel_rfl)) ?_
      refine ok_cons (ok_alloc (b := 1) alE rfl (by kernel_rfl) rfl (by kernel_rfl) (by kernel_rfl)) ?_
      refine ok_cons (ok_mv (Or.inr rfl) (by kernel_rfl) rfl (by kernel_rfl) (by kernel_rfl)) ?_
      exact ok_nil
    clear h; intro β a w h
    refine sym_then ?_
    refine sym_seq ?_
    refine St.region h [.inl (el (dig m)), .inr (0, 0), .inr (1, 0), .inl (.bool false), .inr (2, 0), .inl (.bool false), .inl (.tuple #[el (dig y), .bool false]), .inl (el (dig m)), .inl (.tuple #[el (dig y), .bool false]), .inl (el (dig y)), .inl (.bool false), .inl undef, .inl undef, .inl undef, .inl undef, .inl undef, .inl undef, .inl undef, .inl undef, .inl undef, .inl undef] [.inl (el (dig m)), .inr (0, 0), .inr (1, 0), .inl (.bool false), .inl undef, .inl undef, .inl undef, .inl undef, .inl undef, .inl undef, .inl undef, .inl undef, .inl undef, .inl undef, .inl undef, .inl undef, .inl undef, .inl undef, .inl undef, .inl undef, .inl undef] [(ce m, 33), (ce 0, 33), (ce y, 33)] [(ce m, 33), (ce 0, 33), (ce 0, 33)] [#[], #[], ce y] [⟨none, none, some 0, false⟩, ⟨none, none, none, false⟩, ⟨none, none, none, false⟩, ⟨none, none, none, false⟩, ⟨none, none, none, false⟩, ⟨some 2, none, none, false⟩, ⟨none, some 2, none, false⟩, ⟨none, none, none, false⟩] (by kernel_rfl) (by kernel_rfl) (by kernel_rfl) (by kernel_rfl) (by kernel_rfl) (by kernel_rfl) (by kernel_rfl) (by kernel_rfl) (by kernel_rfl) ?_ ?_
    · refine ok_cons (ok_load (b := 0) (off := 0) (c := ce m) (v := el (dig m)) (ldE (n := m) 33) rfl (by kernel_rfl) rfl (by kernel_rfl) (by kernel_rfl) (by kernel_rfl)) ?_
      refine ok_cons (ok_call (vs := #[el (dig m)]) (R := .tuple #[el (dig y), .bool false]) c1 rfl (by kernel_rfl) rfl (by kernel_rfl) (by kernel_rfl) (by kernel_rfl) (fun w => by kernel_rfl)) ?_
      refine ok_cons (ok_mv (Or.inl rfl) (by kernel_rfl) rfl (by kernel_rfl) (by kernel_rfl)) ?_
      refine ok_cons (ok_ext (x1 := .tuple #[el (dig y), .bool false]) (v := el (dig y)) (fun w => by kernel_rfl) rfl (by kernel_rfl) rfl (by kernel_rfl) (by kernel_rfl) (by kernel_rfl)) ?_
      refine ok_cons (ok_ext (x1 := .tuple #[el (dig y), .bool false]) (v := .bool false) (fun w => by kernel_rfl) rfl (by kernel_rfl) rfl (by kernel_rfl) (by kernel_rfl) (by kernel_rfl)) ?_
      refine ok_cons (ok_alloc (b := 2) alE rfl (by kernel_rfl) rfl (by kernel_rfl) (by kernel_rfl)) ?_
      refine ok_cons (ok_store (b := 2) (off := 0) (u := el (dig y)) (c := ce 0) (n := ce y) (stE (n := y) (c := ce 0) 33 (ce_size _)) rfl (by kernel_rfl) rfl (by kernel_rfl) (by kernel_rfl) (by kernel_rfl) (by kernel_rfl) (by kernel_rfl)) ?_
      refine ok_cons (ok_mv (Or.inr rfl) (by kernel_rfl) rfl (by kernel_rfl) (by kernel_rfl)) ?_
      exact ok_nil
    clear h; intro β a w h
    refine sym_then ?_
    refine sym_seq ?_
    refine sym_seq ?_
    refine St.region h [.inl (el (dig m)), .inr (0, 0), .inr (1, 0), .inl (.bool false), .inr (2, 0), .inl (.bool false), .inl (.tuple #[el (dig y), .bool false]), .inl (el (dig m)), .inl (.tuple #[el (dig y), .bool false]), .inl (el (dig y)), .inl (.bool false), .inl (.bool false), .inl (.bool true), .inl undef, .inl undef, .inl undef, .inl undef, .inl undef, .inl undef, .inl undef, .inl undef] [.inl (el (dig m)), .inr (0, 0), .inr (1, 0), .inl (.bool false), .inr (2, 0), .inl (.bool false), .inl (.tuple #[el (dig y), .bool false]), .inl (el (dig m)), .inl (.tuple #[el (dig y), .bool false]), .inl (el (dig y)), .inl (.bool false), .inl undef, .inl undef, .inl undef, .inl undef, .inl undef, .inl undef, .inl undef, .inl undef, .inl undef, .inl undef] [(ce m, 33), (ce 0, 33), (ce y, 33)] [(ce m, 33), (ce 0, 33), (ce y, 33)] [#[], #[], #[]] [⟨none, none, none, false⟩, ⟨none, none, none, false⟩] (by kernel_rfl) (by kernel_rfl) (by kernel_rfl) (by kernel_rfl) (by kernel_rfl) (by kernel_rfl) (by kernel_rfl) (by kernel_rfl) (by kernel_rfl) ?_ ?_
    · refine ok_cons (ok_mv (Or.inl rfl) (by kernel_rfl) rfl (by kernel_rfl) (by kernel_rfl)) ?_
      refine ok_cons (ok_not (b := false) rfl (by kernel_rfl) rfl (by kernel_rfl) (by kernel_rfl) (by kernel_rfl)) ?_
      exact ok_nil
    clear h; intro β a w h
    refine sym_then ?_
    refine sym_cond_t h (by kernel_rfl) (by kernel_rfl) ?_
    refine sym_seq ?_
    refine St.region h [.inl (el (dig m)), .inr (0, 0), .inr (1, 0), .inl (.bool false), .inr (2, 0), .inl (.bool false), .inl (.tuple #[el (dig y), .bool false]), .inl (el (dig m)), .inl (.tuple #[el (dig y), .bool false]), .inl (el (dig y)), .inl (.bool false), .inl (.bool false), .inl (.bool true), .inl (el (dig 0)), .inl undef, .inl undef, .inl undef, .inl undef, .inl undef, .inl undef, .inl undef] [.inl (el (dig m)), .inr (0, 0), .inr (1, 0), .inl undef, .inr (2, 0), .inl (.bool false), .inl (.tuple #[el (dig y), .bool false]), .inl (el (dig m)), .inl (.tuple #[el (dig y), .bool false]), .inl (el (dig y)), .inl (.bool false), .inl (.bool false), .inl (.bool true), .inl undef, .inl undef, .inl undef, .inl undef, .inl undef, .inl undef, .inl undef, .inl undef] [(ce m, 33), (ce 0, 33), (ce y, 33)] [(ce m, 33), (ce 0, 33), (ce y, 33)] [#[], ce 0, #[]] [⟨none, none, none, false⟩, ⟨none, some 1, none, false⟩, ⟨none, none, none, false⟩] (by kernel_rfl) (by kernel_rfl) (by kernel_rfl) (by kernel_rfl) (by kernel_rfl) (by kernel_rfl) (by kernel_rfl) (by kernel_rfl) (by kernel_rfl) ?_ ?_
    · refine ok_cons (ok_build bdE rfl (by kernel_rfl) rfl (by kernel_rfl) (by kernel_rfl) (by kernel_rfl)) ?_
      refine ok_cons (ok_store (b := 1) (off := 0) (u := el (dig 0)) (c := ce 0) (n := ce 0) (stE (n := 0) (c := ce 0) 33 (ce_size _)) rfl (by kernel_rfl) rfl (by kernel_rfl) (by kernel_rfl) (by kernel_rfl) (by kernel_rfl) (by kernel_rfl)) ?_
      refine ok_cons (ok_mv (Or.inr rfl) (by kernel_rfl) rfl (by kernel_rfl) (by kernel_rfl)) ?_
      exact ok_nil
    clear h; intro β a w h
    refine sym_then ?_
    refine wp_ret ?_
    refine then_ret ?_
    exact sym_ret2 (b := 1) (t0 := 33) (c := ce 0) h Try.results25 (by kernel_rfl) (by kernel_rfl) (by kernel_rfl) (by kernel_rfl) (by kernel_rfl) Try.underlying33 rfl (by kernel_rfl) (fun hb => ⟨rfl, hb⟩)
theorem root_ev {m y : Nat} (hy : y < pp) (hev : decide (y % 2 = 0) = true) (c1 : ∀ w, Calls Try.prog 41 #[el (dig m)] w fun e w' => e = .returned (.tuple #[el (dig y), .bool true]) ∧ Below w.heap.size w w') (w : World) :
    Calls Try.prog 25 #[el (dig m)] w fun e w' => e = .returned (.tuple #[el (dig y), .bool true]) ∧ Below w.heap.size w w' := by
    refine sym_enter Try.func25 Try.ntmps25 rfl [.inl (el (dig m)), .inl undef, .inl undef, .inl undef, .inl undef, .inl undef, .inl undef, .inl undef, .inl undef, .inl undef, .inl undef, .inl undef, .inl undef, .inl undef, .inl undef, .inl undef, .inl undef, .inl undef, .inl undef, .inl undef, .inl undef] (by kernel_rfl) (by kernel_rfl) ?_
    intro β a h
    refine sym_seq ?_
    refine St.region h [.inl (el (dig m)), .inr (0, 0), .inr (1, 0), .inl (.bool false), .inl undef, .inl undef, .inl undef, .inl undef, .inl undef, .inl undef, .inl undef, .inl undef, .inl undef, .inl undef, .inl undef, .inl undef, .inl undef, .inl undef, .inl undef, .inl undef, .inl undef] [.inl (el (dig m)), .inl undef, .inl undef, .inl undef, .inl undef, .inl undef, .inl undef, .inl undef, .inl undef, .inl undef, .inl undef, .inl undef, .inl undef, .inl undef, .inl undef, .inl undef, .inl undef, .inl undef, .inl undef, .inl undef, .inl undef] [(ce m, 33), (ce 0, 33)] [(ce m, 33), (ce 0, 33)] [#[], #[]] [⟨some 0, none, none, false⟩, ⟨some 1, none, none, false⟩, ⟨none, none, none, false⟩] (by kernel_rfl) (by kernel_rfl) (by kernel_rfl) (by kernel_rfl) (by kernel_rfl) (by kernel_rfl) (by kernel_rfl) (by kernel_rfl) (by kernel_rfl) ?_ ?_
    · refine ok_cons (ok_box (b := 0) (u := el (dig m)) (bxE (n := m)) rfl (by kernel_rfl) rfl (by kernel_rfl) (by kernel_rfl) (by kernel_rfl) (by kernel_rfl)) ?_
      refine ok_cons (ok_alloc (b := 1) alE rfl (by kernel_rfl) rfl (by kernel_rfl) (by kernel_rfl)) ?_
      refine ok_cons (ok_mv (Or.inr rfl) (by kernel_rfl) rfl (by kernel_rfl) (by kernel_rfl)) ?_
      exact ok_nil
    clear h; intro β a w h
    refine sym_then ?_
    refine sym_seq ?_
    refine St.region h [.inl (el (dig m)), .inr (0, 0), .inr (1, 0), .inl (.bool false), .inr (2, 0), .inl (.bool true), .inl (.tuple #[el (dig y), .bool true]), .inl (el (dig m)), .inl (.tuple #[el (dig y), .bool true]), .inl (el (dig y)), .inl (.bool true), .inl undef, .inl undef, .inl undef, .inl undef, .inl undef, .inl undef, .inl undef, .inl undef, .inl undef, .inl undef] [.inl (el (dig m)), .inr (0, 0), .inr (1, 0), .inl (.bool false), .inl undef, .inl undef, .inl undef, .inl undef, .inl undef, .inl undef, .inl undef, .inl undef, .inl undef, .inl undef, .inl undef, .inl undef, .inl undef, .inl undef, .inl undef, .inl undef, .inl undef] [(ce m, 33), (ce 0, 33), (ce y, 33)] [(ce m, 33), (ce 0, 33), (ce 0, 33)] [#[], #[], ce y] [⟨none, none, some 0, false⟩, ⟨none, none, none, false⟩, ⟨none, none, none, false⟩, ⟨none, none, none, false⟩, ⟨none, none, none, false⟩, ⟨some 2, none, none, false⟩, ⟨none, some 2, none, false⟩, ⟨none, none, none, false⟩] (by kernel_rfl) (by kernel_rfl) (by kernel_rfl) (by kernel_rfl) (by kernel_rfl) (by kernel_rfl) (by kernel_rfl) (by kernel_rfl) (by kernel_rfl) ?_ ?_
    · refine ok_cons (ok_load (b := 0) (off := 0) (c := ce m) (v := el (dig m)) (ldE (n := m) 33) rfl (by kernel_rfl) rfl (by kernel_rfl) (by kernel_rfl) (by kernel_rfl)) ?_
      refine ok_cons (ok_call (vs := #[el (dig m)]) (R := .tuple #[el (dig y), .bool true]) c1 rfl (by kernel_rfl) rfl (by kernel_rfl) (by kernel_rfl) (by kernel_rfl) (fun w => by kernel_rfl)) ?_
      refine ok_cons (ok_mv (Or.inl rfl) (by kernel_rfl) rfl (by kernel_rfl) (by kernel_rfl)) ?_
      refine ok_cons (ok_ext (x1 := .tuple #[el (dig y), .bool true]) (v := el (dig y)) (fun w => by kernel_rfl) rfl (by kernel_rfl) rfl (by kernel_rfl) (by kernel_rfl) (by kernel_rfl)) ?_
      refine ok_cons (ok_ext (x1 := .tuple #[el (dig y), .bool true]) (v := .bool true) (fun w => by kernel_rfl) rfl (by kernel_rfl) rfl (by kernel_rfl) (by kernel_rfl) (by kernel_rfl)) ?_
      refine ok_cons (ok_alloc (b := 2) alE rfl (by kernel_rfl) rfl (by kernel_rfl) (by kernel_rfl)) ?_
      refine ok_cons (ok_store (b := 2) (off := 0) (u := el (dig y)) (c := ce 0) (n := ce y) (stE (n := y) (c := ce 0) 33 (ce_size _)) rfl (by kernel_rfl) rfl (by kernel_rfl) (by kernel_rfl) (by kernel_rfl) (by kernel_rfl) (by kernel_rfl)) ?_
      refine ok_cons (ok_mv (Or.inr rfl) (by kernel_rfl) rfl (by kernel_rfl) (by kernel_rfl)) ?_
      exact ok_nil
    clear h; intro β a w h
    refine sym_then ?_
    refine sym_seq ?_
    refine sym_seq ?_
    refine St.region h [.inl (el (dig m)), .inr (0, 0), .inr (1, 0), .inl (.bool false), .inr (2, 0), .inl (.bool true), .inl (.tuple #[el (dig y), .bool true]), .inl (el (dig m)), .inl (.tuple #[el (dig y), .bool true]), .inl (el (dig y)), .inl (.bool true), .inl (.bool true), .inl (.bool false), .inl undef, .inl undef, .inl undef, .inl undef, .inl undef, .inl undef, .inl undef, .inl undef] [.inl (el (dig m)), .inr (0, 0), .inr (1, 0), .inl (.bool false), .inr (2, 0), .inl (.bool true), .inl (.tuple #[el (dig y), .bool true]), .inl (el (dig m)), .inl (.tuple #[el (dig y), .bool true]), .inl (el (dig y)), .inl (.bool true), .inl undef, .inl undef, .inl undef, .inl undef, .inl undef, .inl undef, .inl undef, .inl undef, .inl undef, .inl undef] [(ce m, 33), (ce 0, 33), (ce y, 33)] [(ce m, 33), (ce 0, 33), (ce y, 33)] [#[], #[], #[]] [⟨none, none, none, false⟩, ⟨none, none, none, false⟩] (by kernel_rfl) (by kernel_rfl) (by kernel_rfl) (by kernel_rfl) (by kernel_rfl) (by kernel_rfl) (by kernel_rfl) (by kernel_rfl) (by kernel_rfl) ?_ ?_
    · refine ok_cons (ok_mv (Or.inl rfl) (by kernel_rfl) rfl (by kernel_rfl) (by kernel_rfl)) ?_
      refine ok_cons (ok_not (b := true) rfl (by kernel_rfl) rfl (by kernel_rfl) (by kernel_rfl) (by kernel_rfl)) ?_
      exact ok_nil
    clear h; intro β a w h
    refine sym_then ?_
    refine sym_cond_f h (by kernel_rfl) (by kernel_rfl) ?_
    refine wp_skip ?_
    refine sym_then ?_
    refine sym_seq ?_
    refine sym_seq ?_
    refine St.region h [.inl (el (dig m)), .inr (0, 0), .inr (1, 0), .inl (.bool false), .inr (2, 0), .inl (.bool true), .inl (.tuple #[el (dig y), .bool true]), .inl (el (dig m)), .inl (.tuple #[el (dig y), .bool true]), .inl (el (dig y)), .inl (.bool true), .inl (.bool true), .inl (.bool false), .inl undef, .inl (el (dig y)), .inl (.bool true), .inl (.bool false), .inl undef, .inl undef, .inl undef, .inl undef] [.inl (el (dig m)), .inr (0, 0), .inr (1, 0), .inl (.bool false), .inr (2, 0), .inl (.bool true), .inl (.tuple #[el (dig y), .bool true]), .inl (el (dig m)), .inl (.tuple #[el (dig y), .bool true]), .inl (el (dig y)), .inl (.bool true), .inl (.bool true), .inl (.bool false), .inl undef, .inl undef, .inl undef, .inl undef, .inl undef, .inl undef, .inl undef, .inl undef] [(ce m, 33), (ce 0, 33), (ce y, 33)] [(ce m, 33), (ce 0, 33), (ce y, 33)] [#[], #[], #[]] [⟨none, none, some 2, false⟩, ⟨none, none, none, false⟩, ⟨none, none, none, false⟩] (by kernel_rfl) (by kernel_rfl) (by kernel_rfl) (by kernel_rfl) (by kernel_rfl) (by kernel_rfl) (by kernel_rfl) (by kernel_rfl) (by kernel_rfl) ?_ ?_
    · refine ok_cons (ok_load (b := 2) (off := 0) (c := ce y) (v := el (dig y)) (ldE (n := y) 33) rfl (by kernel_rfl) rfl (by kernel_rfl) (by kernel_rfl) (by kernel_rfl)) ?_
      refine ok_cons (ok_call (vs := #[el (dig y)]) (R := .bool true) (fun w => even_b hy hev w) rfl (by kernel_rfl) rfl (by kernel_rfl) (by kernel_rfl) (by kernel_rfl) (fun w => by kernel_rfl)) ?_
      refine ok_cons (ok_not (b := true) rfl (by kernel_rfl) rfl (by kernel_rfl) (by kernel_rfl) (by kernel_rfl)) ?_
      exact ok_nil
    clear h; intro β a w h
    refine sym_then ?_
    refine sym_cond_f h (by kernel_rfl) (by kernel_rfl) ?_
    refine wp_skip ?_
    refine sym_then ?_
    refine sym_seq ?_
    refine St.region h [.inl (el (dig m)), .inr (0, 0), .inr (1, 0), .inl (.bool true), .inr (2, 0), .inl (.bool true), .inl (.tuple #[el (dig y), .bool true]), .inl (el (dig m)), .inl (.tuple #[el (dig y), .bool true]), .inl (el (dig y)), .inl (.bool true), .inl (.bool true), .inl (.bool false), .inl undef, .inl (el (dig y)), .inl (.bool true), .inl (.bool false), .inl undef, .inl undef, .inl undef, .inl (el (dig y))] [.inl (el (dig m)), .inr (0, 0), .inr (1, 0), .inl undef, .inr (2, 0), .inl (.bool true), .inl (.tuple #[el (dig y), .bool true]), .inl (el (dig m)), .inl (.tuple #[el (dig y), .bool true]), .inl (el (dig y)), .inl (.bool true), .inl (.bool true), .inl (.bool false), .inl undef, .inl (el (dig y)), .inl (.bool true), .inl (.bool false), .inl undef, .inl undef, .inl undef, .inl undef] [(ce m, 33), (ce y, 33), (ce y, 33)] [(ce m, 33), (ce 0, 33), (ce y, 33)] [#[], ce y, #[]] [⟨none, none, some 2, false⟩, ⟨none, some 1, none, false⟩, ⟨none, none, none, false⟩] (by kernel_rfl) (by kernel_rfl) (by kernel_rfl) (by kernel_rfl) (by kernel_rfl) (by kernel_rfl) (by kernel_rfl) (by kernel_rfl) (by kernel_rfl) ?_ ?_
    · refine ok_cons (ok_load (b := 2) (off := 0) (c := ce y) (v := el (dig y)) (ldE (n := y) 33) rfl (by kernel_rfl) rfl (by kernel_rfl) (by kernel_rfl) (by kernel_rfl)) ?_
      refine ok_cons (ok_store (b := 1) (off := 0) (u := el (dig y)) (c := ce 0) (n := ce y) (stE (n := y) (c := ce 0) 33 (ce_size _)) rfl (by kernel_rfl) rfl (by kernel_rfl) (by kernel_rfl) (by kernel_rfl) (by kernel_rfl) (by kernel_rfl)) ?_
      refine ok_cons (ok_mv (Or.inr rfl) (by kernel_rfl) rfl (by kernel_rfl) (by kernel_rfl)) ?_
      exact ok_nil
    clear h; intro β a w h
    refine sym_then ?_
    refine wp_ret ?_
    exact sym_ret2 (b := 1) (t0 := 33) (c := ce y) h Try.results25 (by kernel_rfl) (by kernel_rfl) (by kernel_rfl) (by kernel_rfl) (by kernel_rfl) Try.underlying33 rfl (by kernel_rfl) (fun hb => ⟨rfl, hb⟩)
theorem root_od {m y : Nat} (hy : y < pp) (hev : decide (y % 2 = 0) = false) (c1 : ∀ w, Calls Try.prog 41 #[el (dig m)] w fun e w' => e = .returned (.tuple #[el (dig y), .bool true]) ∧ Below w.heap.size w w') (w : World) :
    Calls Try.prog 25 #[el (dig m)] w fun e w' => e = .returned (.tuple #[el (dig ((0 + (pp - y)) % pp)), .bool true]) ∧ Below w.heap.size w w' := by
    refine sym_enter Try.func25 Try.ntmps25 rfl [.inl (el (dig m)), .inl undef, .inl undef, .inl undef, .inl undef, .inl undef, .inl undef, .inl undef, .inl undef, .inl undef, .inl undef, .inl undef, .inl undef, .inl undef, .inl undef, .inl undef, .inl undef, .inl undef, .inl undef, .inl undef, .inl undef] (by kernel_rfl) (by kernel_rfl) ?_
    intro β a h
    refine sym_seq ?_
    refine St.region h [.inl (el (dig m)), .inr (0, 0), .inr (1, 0), .inl (.bool false), .inl undef, .inl undef, .inl undef, .inl undef, .inl undef, .inl undef, .inl undef, .inl undef, .inl undef, .inl undef, .inl undef, .inl undef, .inl undef, .inl undef, .inl undef, .inl undef, .inl undef] [.inl (el (dig m)), .inl undef, .inl undef, .inl undef, .inl undef, .inl undef, .inl undef, .inl undef, .inl undef, .inl undef, .inl undef, .inl undef, .inl undef, .inl undef, .inl undef, .inl undef, .inl undef, .inl undef, .inl undef, .inl undef, .inl undef] [(ce m, 33), (ce 0, 33)] [(ce m, 33), (ce 0, 33)] [#[], #[]] [⟨some 0, none, none, false⟩, ⟨some 1, none, none, false⟩, ⟨none, none, none, false⟩] (by kernel_rfl) (by kernel_rfl) (by kernel_rfl) (by kernel_rfl) (by kernel_rfl) (by kernel_rfl) (by kernel_rfl) (by kernel_rfl) (by kernel_rfl) ?_ ?_
    · refine ok_cons (ok_box (b := 0) (u := el (dig m)) (bxE (n := m)) rfl (by kernel_rfl) rfl (by kernel_rfl) (by kernel_rfl) (by kernel_rfl) (by kernel_rfl)) ?_
      refine ok_cons (ok_alloc (b := 1) alE rfl (by kernel_rfl) rfl (by kernel_rfl) (by kernel_rfl)) ?_
      refine ok_cons (ok_mv (Or.inr rfl) (by kernel_rfl) rfl (by kernel_rfl) (by kernel_rfl)) ?_
      exact ok_nil
    clear h; intro β a w h
    refine sym_then ?_
    refine sym_seq ?_
    refine St.region h [.inl (el (dig m)), .inr (0, 0), .inr (1, 0), .inl (.bool false), .inr (2, 0), .inl (.bool true), .inl (.tuple #[el (dig y), .bool true]), .inl (el (dig m)), .inl (.tuple #[el (dig y), .bool true]), .inl (el (dig y)), .inl (.bool true), .inl undef, .inl undef, .inl undef, .inl undef, .inl undef, .inl undef, .inl undef, .inl undef, .inl undef, .inl undef] [.inl (el (dig m)), .inr (0, 0), .inr (1, 0), .inl (.bool false), .inl undef, .inl undef, .inl undef, .inl undef, .inl undef, .inl undef, .inl undef, .inl undef, .inl undef, .inl undef, .inl undef, .inl undef, .inl undef, .inl undef, .inl undef, .inl undef, .inl undef] [(ce m, 33), (ce 0, 33), (ce y, 33)] [(ce m, 33), (ce 0, 33), (ce 0, 33)] [#[], #[], ce y] [⟨none, none, some 0, false⟩, ⟨none, none, none, false⟩, ⟨none, none, none, false⟩, ⟨none, none, none, false⟩, ⟨none, none, none, false⟩, ⟨some 2, none, none, false⟩, ⟨none, some 2, none, false⟩, ⟨none, none, none, false⟩] (by kernel_rfl) (by kernel_rfl) (by kernel_rfl) (by kernel_rfl) (by kernel_rfl) (by kernel_rfl) (by kernel_rfl) (by kernel_rfl) (by kernel_rfl) ?_ ?_
    · refine ok_cons (ok_load (b := 0) (off := 0) (c := ce m) (v := el (dig m)) (ldE (n := m) 33) rfl (by kernel_rfl) rfl (by kernel_rfl) (by kernel_rfl) (by kernel_rfl)) ?_
      refine ok_cons (ok_call (vs := #[el (dig m)]) (R := .tuple #[el (dig y), .bool true]) c1 rfl (by kernel_rfl) rfl (by kernel_rfl) (by kernel_rfl) (by kernel_rfl) (fun w => by kernel_rfl)) ?_
      refine ok_cons (ok_mv (Or.inl rfl) (by kernel_rfl) rfl (by kernel_rfl) (by kernel_rfl)) ?_
      refine ok_cons (ok_ext (x1 := .tuple #[el (dig y), .bool true]) (v := el (dig y)) (fun w => by kernel_rfl) rfl (by kernel_rfl) rfl (by kernel_rfl) (by kernel_rfl) (by kernel_rfl)) ?_
      refine ok_cons (ok_ext (x1 := .tuple #[el (dig y), .bool true]) (v := .bool true) (fun w => by kernel_rfl) rfl (by kernel_rfl) rfl (by kernel_rfl) (by kernel_rfl) (by kernel_rfl)) ?_
      refine ok_cons (ok_alloc (b := 2) alE rfl (by kernel_rfl) rfl (by kernel_rfl) (by kernel_rfl)) ?_
      refine ok_cons (ok_store (b := 2) (off := 0) (u := el (dig y)) (c := ce 0) (n := ce y) (stE (n := y) (c := ce 0) 33 (ce_size _)) rfl (by kernel_rfl) rfl (by kernel_rfl) (by kernel_rfl) (by kernel_rfl) (by kernel_rfl) (by kernel_rfl)) ?_
      refine ok_cons (ok_mv (Or.inr rfl) (by kernel_rfl) rfl (by kernel_rfl) (by kernel_rfl)) ?_
      exact ok_nil
    clear h; intro β a w h
    refine sym_then ?_
    refine sym_seq ?_
    refine sym_seq ?_
    refine St.region h [.inl (el (dig m)), .inr (0, 0), .inr (1, 0), .inl (.bool false), .inr (2, 0), .inl (.bool true), .inl (.tuple #[el (dig y), .bool true]), .inl (el (dig m)), .inl (.tuple #[el (dig y), .bool true]), .inl (el (dig y)), .inl (.bool true), .inl (.bool true), .inl (.bool false), .inl undef, .inl undef, .inl undef, .inl undef, .inl undef, .inl undef, .inl undef, .inl undef] [.inl (el (dig m)), .inr (0, 0), .inr (1, 0), .inl (.bool false), .inr (2, 0), .inl (.bool true), .inl (.tuple #[el (dig y), .bool true]), .inl (el (dig m)), .inl (.tuple #[el (dig y), .bool true]), .inl (el (dig y)), .inl (.bool true), .inl undef, .inl undef, .inl undef, .inl undef, .inl undef, .inl undef, .inl undef, .inl undef, .inl undef, .inl undef] [(ce m, 33), (ce 0, 33), (ce y, 33)] [(ce m, 33), (ce 0, 33), (ce y, 33)] [#[], #[], #[]] [⟨none, none, none, false⟩, ⟨none, none, none, false⟩] (by kernel_rfl) (by kernel_rfl) (by kernel_rfl) (by kernel_rfl) (by kernel_rfl) (by kernel_rfl) (by kernel_rfl) (by kernel_rfl) (by kernel_rfl) ?_ ?_
    · refine ok_cons (ok_mv (Or.inl rfl) (by kernel_rfl) rfl (by kernel_rfl) (by kernel_rfl)) ?_
      refine ok_cons (ok_not (b := true) rfl (by kernel_rfl) rfl (by kernel_rfl) (by kernel_rfl) (by kernel_rfl)) ?_
      exact ok_nil
    clear h; intro β a w h
    refine sym_then ?_
    refine sym_cond_f h (by kernel_rfl) (by kernel_rfl) ?_
    refine wp_skip ?_
    refine sym_then ?_
    refine sym_seq ?_
    refine sym_seq ?_
    refine St.region h [.inl (el (dig m)), .inr (0, 0), .inr (1, 0), .inl (.bool false), .inr (2, 0), .inl (.bool true), .inl (.tuple #[el (dig y), .bool true]), .inl (el (dig m)), .inl (.tuple #[el (dig y), .bool true]), .inl (el (dig y)), .inl (.bool true), .inl (.bool true), .inl (.bool false), .inl undef, .inl (el (dig y)), .inl (.bool false), .inl (.bool true), .inl undef, .inl undef, .inl undef, .inl undef] [.inl (el (dig m)), .inr (0, 0), .inr (1, 0), .inl (.bool false), .inr (2, 0), .inl (.bool true), .inl (.tuple #[el (dig y), .bool true]), .inl (el (dig m)), .inl (.tuple #[el (dig y), .bool true]), .inl (el (dig y)), .inl (.bool true), .inl (.bool true), .inl (.bool false), .inl undef, .inl undef, .inl undef, .inl undef, .inl undef, .inl undef, .inl undef, .inl undef] [(ce m, 33), (ce 0, 33), (ce y, 33)] [(ce m, 33), (ce 0, 33), (ce y, 33)] [#[], #[], #[]] [⟨none, none, some 2, false⟩, ⟨none, none, none, false⟩, ⟨none, none, none, false⟩] (by kernel_rfl) (by kernel_rfl) (by kernel_rfl) (by kernel_rfl) (by kernel_rfl) (by kernel_rfl) (by kernel_rfl) (by kernel_rfl) (by kernel_rfl) ?_ ?_
    · refine ok_cons (ok_load (b := 2) (off := 0) (c := ce y) (v := el (dig y)) (ldE (n := y) 33) rfl (by kernel_rfl) rfl (by kernel_rfl) (by kernel_rfl) (by kernel_rfl)) ?_
      refine ok_cons (ok_call (vs := #[el (dig y)]) (R := .bool false) (fun w => even_b hy hev w) rfl (by kernel_rfl) rfl (by kernel_rfl) (by kernel_rfl) (by kernel_rfl) (fun w => by kernel_rfl)) ?_
      refine ok_cons (ok_not (b := false) rfl (by kernel_rfl) rfl (by kernel_rfl) (by kernel_rfl) (by kernel_rfl)) ?_
      exact ok_nil
    clear h; intro β a w h
    refine sym_then ?_
    refine sym_cond_t h (by kernel_rfl) (by kernel_rfl) ?_
    refine St.region h [.inl (el (dig m)), .inr (0, 0), .inr (1, 0), .inl (.bool false), .inr (2, 0), .inl (.bool true), .inl (.tuple #[el (dig y), .bool true]), .inl (el (dig m)), .inl (.tuple #[el (dig y), .bool true]), .inl (el (dig y)), .inl (.bool true), .inl (.bool true), .inl (.bool false), .inl undef, .inl (el (dig y)), .inl (.bool false), .inl (.bool true), .inl (el (dig 0)), .inl (el (dig y)), .inl (el (dig ((0 + (pp - y)) % pp))), .inl undef] [.inl (el (dig m)), .inr (0, 0), .inr (1, 0), .inl (.bool false), .inr (2, 0), .inl (.bool true), .inl (.tuple #[el (dig y), .bool true]), .inl (el (dig m)), .inl (.tuple #[el (dig y), .bool true]), .inl (el (dig y)), .inl (.bool true), .inl (.bool true), .inl (.bool false), .inl undef, .inl (el (dig y)), .inl (.bool false), .inl (.bool true), .inl undef, .inl undef, .inl undef, .inl undef] [(ce m, 33), (ce 0, 33), (ce ((0 + (pp - y)) % pp), 33)] [(ce m, 33), (ce 0, 33), (ce y, 33)] [#[], #[], ce ((0 + (pp - y)) % pp)] [⟨none, none, none, false⟩, ⟨none, none, some 2, false⟩, ⟨none, none, none, false⟩, ⟨none, some 2, none, false⟩] (by kernel_rfl) (by kernel_rfl) (by kernel_rfl) (by kernel_rfl) (by kernel_rfl) (by kernel_rfl) (by kernel_rfl) (by kernel_rfl) (by kernel_rfl) ?_ ?_
    · refine ok_cons (ok_build bdE rfl (by kernel_rfl) rfl (by kernel_rfl) (by kernel_rfl) (by kernel_rfl)) ?_
      refine ok_cons (ok_load (b := 2) (off := 0) (c := ce y) (v := el (dig y)) (ldE (n := y) 33) rfl (by kernel_rfl) rfl (by kernel_rfl) (by kernel_rfl) (by kernel_rfl)) ?_
      refine ok_cons (ok_call (vs := #[el (dig 0), el (dig y)]) (R := el (dig ((0 + (pp - y)) % pp))) (fun w => minus_d (by decide +kernel) hy w) rfl (by kernel_rfl) rfl (by kernel_rfl) (by kernel_rfl) (by kernel_rfl) (fun w => by kernel_rfl)) ?_
      refine ok_cons (ok_store (b := 2) (off := 0) (u := el (dig ((0 + (pp - y)) % pp))) (c := ce y) (n := ce ((0 + (pp - y)) % pp)) (stE (n := ((0 + (pp - y)) % pp)) (c := ce y) 33 (ce_size _)) rfl (by kernel_rfl) rfl (by kernel_rfl) (by kernel_rfl) (by kernel_rfl) (by kernel_rfl) (by kernel_rfl)) ?_
      exact ok_nil
    clear h; intro β a w h
    refine sym_then ?_
    refine sym_seq ?_
    refine St.region h [.inl (el (dig m)), .inr (0, 0), .inr (1, 0), .inl (.bool true), .inr (2, 0), .inl (.bool true), .inl (.tuple #[el (dig y), .bool true]), .inl (el (dig m)), .inl (.tuple #[el (dig y), .bool true]), .inl (el (dig y)), .inl (.bool true), .inl (.bool true), .inl (.bool false), .inl undef, .inl (el (dig y)), .inl (.bool false), .inl (.bool true), .inl (el (dig 0)), .inl (el (dig y)), .inl (el (dig ((0 + (pp - y)) % pp))), .inl (el (dig ((0 + (pp - y)) % pp)))] [.inl (el (dig m)), .inr (0, 0), .inr (1, 0), .inl undef, .inr (2, 0), .inl (.bool true), .inl (.tuple #[el (dig y), .bool true]), .inl (el (dig m)), .inl (.tuple #[el (dig y), .bool true]), .inl (el (dig y)), .inl (.bool true), .inl (.bool true), .inl (.bool false), .inl undef, .inl (el (dig y)), .inl (.bool false), .inl (.bool true), .inl (el (dig 0)), .inl (el (dig y)), .inl (el (dig ((0 + (pp - y)) % pp))), .inl undef] [(ce m, 33), (ce ((0 + (pp - y)) % pp), 33), (ce ((0 + (pp - y)) % pp), 33)] [(ce m, 33), (ce 0, 33), (ce ((0 + (pp - y)) % pp), 33)] [#[], ce ((0 + (pp - y)) % pp), #[]] [⟨none, none, some 2, false⟩, ⟨none, some 1, none, false⟩, ⟨none, none, none, false⟩] (by kernel_rfl) (by kernel_rfl) (by kernel_rfl) (by kernel_rfl) (by kernel_rfl) (by kernel_rfl) (by kernel_rfl) (by kernel_rfl) (by kernel_rfl) ?_ ?_
    · refine ok_cons (ok_load (b := 2) (off := 0) (c := ce ((0 + (pp - y)) % pp)) (v := el (dig ((0 + (pp - y)) % pp))) (ldE (n := ((0 + (pp - y)) % pp)) 33) rfl (by kernel_rfl) rfl (by kernel_rfl) (by kernel_rfl) (by kernel_rfl)) ?_
      refine ok_cons (ok_store (b := 1) (off := 0) (u := el (dig ((0 + (pp - y)) % pp))) (c := ce 0) (n := ce ((0 + (pp - y)) % pp)) (stE (n := ((0 + (pp - y)) % pp)) (c := ce 0) 33 (ce_size _)) rfl (by kernel_rfl) rfl (by kernel_rfl) (by kernel_rfl) (by kernel_rfl) (by kernel_rfl) (by kernel_rfl)) ?_
      refine ok_cons (ok_mv (Or.inr rfl) (by kernel_rfl) rfl (by kernel_rfl) (by kernel_rfl)) ?_
      exact ok_nil
    clear h; intro β a w h
    refine sym_then ?_
    refine wp_ret ?_
    exact sym_ret2 (b := 1) (t0 := 33) (c := ce ((0 + (pp - y)) % pp)) h Try.results25 (by kernel_rfl) (by kernel_rfl) (by kernel_rfl) (by kernel_rfl) (by kernel_rfl) Try.underlying33 rfl (by kernel_rfl) (fun hb => ⟨rfl, hb⟩)

theorem hexp : ∃ h : Nat, 2 * h + 1 = pp ∧ ∀ k : Nat, k = 7237005577332262213973186563042994240829374041602535252466099000494570602494 → 4 * k = h + 2 :=
  ⟨28948022309329048855892746252171976963317496166410141009864396001978282409974, by unfold pp; omega, fun k hk => by subst hk; omega⟩

/-- Root: an even root and true, or nothing and false where there is none. -/
theorem root_d {m : Nat} (hm : m < pp) : ∃ (r : Nat) (b : Bool), r < pp ∧ (b = true → r * r % pp = m ∧ r % 2 = 0) ∧ (b = false → r = 0 ∧ ∀ x, x * x % pp ≠ m) ∧
    ∀ w, Calls Try.prog 25 #[el (dig m)] w fun e w' => e = .returned (.tuple #[el (dig r), .bool b]) ∧ Below w.heap.size w w' := by
  obtain ⟨k, hk, c⟩ := anyRoot_d hm
  obtain ⟨h, hh, h4⟩ := hexp
  have h4 := h4 k hk.out
  have hy : aRt (m ^ k % pp) m < pp := aRt_lt (mod_pp _)
  have hone : m ^ h % pp = 1 → aRt (m ^ k % pp) m * aRt (m ^ k % pp) m % pp = m := fun h1 => root_of_one hm h4 h1 rfl
  have hzero : m = 0 → aRt (m ^ k % pp) m * aRt (m ^ k % pp) m % pp = m := by
    intro e
    subst e
    have hk0 : 0 < k := by omega
    have e0 : 0 ^ k % pp = 0 := by rw [Nat.zero_pow hk0]; exact Nat.zero_mod _
    rw [e0, aRt_t (by simp)]; simp
  generalize aRt (m ^ k % pp) m = y at *
  by_cases hb : y * y % pp = m
  · rw [decide_eq_true hb] at c
    obtain ⟨s1, s2, s3⟩ := evn_spec hy
    refine ⟨evn y, true, s1, fun _ => ⟨by rw [s3]; exact hb, s2⟩, fun h => (by cases h), fun w => ?_⟩
    by_cases he : y % 2 = 0
    · rw [evn_t he]; exact root_ev hy (decide_eq_true he) c w
    · rw [evn_f he]; exact root_od hy (decide_eq_false he) c w
  · rw [decide_eq_false hb] at c
    refine ⟨0, false, pp_pos, fun h => (by cases h), fun _ => ⟨rfl, fun x hx => hb ?_⟩, root_no c⟩
    by_cases h0 : m = 0
    · exact hzero h0
    · exact hone (one_of_root hh h0 hx)
end Go.Proofs.Ytchbkkjjbdgdoaa

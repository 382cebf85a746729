/- The walk of FieldProducts: products are the document's. -/
import Derived.Test.YtchbkkjjbdgdoaaRef5
import Derived.Test.YtchbkkjjbdgdoaaX7
namespace Go.Proofs.Ytchbkkjjbdgdoaa
open Go.RowKit
set_option maxHeartbeats 4000000 in
theorem fieldProducts_walk (b0 : Nat → Nat) (h0 : ∀ i, b0 i < 256) (b1 : Nat → Nat) (h1 : ∀ i, b1 i < 256) (w : World) : Calls Try.prog 5 #[.agg (ck b0), .agg (ck b1)] w fun e w' => e = .returned (.bool true) ∧ Below w.heap.size w w' := by
  refine sym_enter Try.func5 Try.ntmps5 rfl [.inl (.agg (ck b0)), .inl (.agg (ck b1)), .inl undef, .inl undef, .inl undef, .inl undef, .inl undef, .inl undef, .inl undef, .inl undef, .inl undef, .inl undef, .inl undef, .inl undef, .inl undef, .inl undef, .inl undef, .inl undef, .inl undef] (by kernel_rfl) (by kernel_rfl) ?_
  intro β a h
  refine sym_seq ?_
  refine St.region h [.inl (.agg (ck b0)), .inl (.agg (ck b1)), .inr (0, 0), .inr (1, 0), .inl (.bool false), .inl undef, .inl undef, .inl undef, .inl undef, .inl undef, .inl undef, .inl undef, .inl undef, .inl undef, .inl undef, .inl undef, .inl undef, .inl undef, .inl undef] [.inl (.agg (ck b0)), .inl (.agg (ck b1)), .inl undef, .inl undef, .inl undef, .inl undef, .inl undef, .inl undef, .inl undef, .inl undef, .inl undef, .inl undef, .inl undef, .inl undef, .inl undef, .inl undef, .inl undef, .inl undef, .inl undef] [(ck b0, 23), (ck b1, 23)] [(ck b0, 23), (ck b1, 23)] [#[], #[]] [⟨some 0, none, none, false⟩, ⟨some 1, none, none, false⟩, ⟨none, none, none, false⟩] (by kernel_rfl) (by kernel_rfl) (by kernel_rfl) (by kernel_rfl) (by kernel_rfl) (by kernel_rfl) (by kernel_rfl) (by kernel_rfl) (by kernel_rfl) ?_ ?_
  · refine ok_cons (ok_box (b := 0) (u := .agg (ck b0)) (bxK (b := b0)) rfl (by kernel_rfl) rfl (by kernel_rfl) (by kernel_rfl) (by kernel_rfl) (by kernel_rfl)) ?_
    refine ok_cons (ok_box (b := 1) (u := .agg (ck b1)) (bxK (b := b1)) rfl (by kernel_rfl) rfl (by kernel_rfl) (by kernel_rfl) (by kernel_rfl) (by kernel_rfl)) ?_
    refine ok_cons (ok_mv (Or.inr rfl) (by kernel_rfl) rfl (by kernel_rfl) (by kernel_rfl)) ?_
    exact ok_nil
  clear h; intro β a w h
  refine sym_then ?_
  refine sym_seq ?_
  refine St.region h [.inl (.agg (ck b0)), .inl (.agg (ck b1)), .inr (0, 0), .inr (1, 0), .inl (.bool true), .inl (.bool true), .inl (.bool true), .inl (.agg (ck b0)), .inl (el (dig (ofb b0))), .inl (.agg (ck b1)), .inl (el (dig (ofb b1))), .inl (el (dig ((ofb b0) * (ofb b1) % pp))), .inl (.agg (ck b0)), .inl (.agg (ai 22 (dg (ofb b0)))), .inl (.agg (ck b1)), .inl (.agg (ai 22 (dg (ofb b1)))), .inl (.agg (ai 22 (dg ((ofb b0) * (ofb b1) % pp)))), .inl (.bool true), .inl (.bool true)] [.inl (.agg (ck b0)), .inl (.agg (ck b1)), .inr (0, 0), .inr (1, 0), .inl undef, .inl undef, .inl undef, .inl undef, .inl undef, .inl undef, .inl undef, .inl undef, .inl undef, .inl undef, .inl undef, .inl undef, .inl undef, .inl undef, .inl undef] [(ck b0, 23), (ck b1, 23)] [(ck b0, 23), (ck b1, 23)] [#[], #[]] [⟨none, none, none, false⟩, ⟨none, none, none, false⟩, ⟨none, none, some 0, false⟩, ⟨none, none, none, false⟩, ⟨none, none, some 1, false⟩, ⟨none, none, none, false⟩, ⟨none, none, none, false⟩, ⟨none, none, some 0, false⟩, ⟨none, none, none, false⟩, ⟨none, none, some 1, false⟩, ⟨none, none, none, false⟩, ⟨none, none, none, false⟩, ⟨none, none, none, false⟩, ⟨none, none, none, false⟩, ⟨none, none, none, false⟩] (by kernel_rfl) (by kernel_rfl) (by kernel_rfl) (by kernel_rfl) (by kernel_rfl) (by kernel_rfl) (by kernel_rfl) (by kernel_rfl) (by kernel_rfl) ?_ ?_
  · refine ok_cons (ok_call (vs := #[]) (R := .bool true) alive_any rfl (by kernel_rfl) rfl (by kernel_rfl) (by kernel_rfl) (by kernel_rfl) (fun w => by kernel_rfl)) ?_
    refine ok_cons (ok_mv (Or.inl rfl) (by kernel_rfl) rfl (by kernel_rfl) (by kernel_rfl)) ?_
    refine ok_cons (ok_load (b := 0) (off := 0) (c := ck b0) (v := .agg (ck b0)) (ldK (b := b0) 23) rfl (by kernel_rfl) rfl (by kernel_rfl) (by kernel_rfl) (by kernel_rfl)) ?_
    refine ok_cons (ok_call (vs := #[.agg (ck b0)]) (R := el (dig (ofb b0))) (fun w => of_k h0 w) rfl (by kernel_rfl) rfl (by kernel_rfl) (by kernel_rfl) (by kernel_rfl) (fun w => by kernel_rfl)) ?_
    refine ok_cons (ok_load (b := 1) (off := 0) (c := ck b1) (v := .agg (ck b1)) (ldK (b := b1) 23) rfl (by kernel_rfl) rfl (by kernel_rfl) (by kernel_rfl) (by kernel_rfl)) ?_
    refine ok_cons (ok_call (vs := #[.agg (ck b1)]) (R := el (dig (ofb b1))) (fun w => of_k h1 w) rfl (by kernel_rfl) rfl (by kernel_rfl) (by kernel_rfl) (by kernel_rfl) (fun w => by kernel_rfl)) ?_
    refine ok_cons (ok_call (vs := #[el (dig (ofb b0)), el (dig (ofb b1))]) (R := el (dig ((ofb b0) * (ofb b1) % pp))) (fun w => times_d (ofb_lt b0) (ofb_lt b1) w) rfl (by kernel_rfl) rfl (by kernel_rfl) (by kernel_rfl) (by kernel_rfl) (fun w => by kernel_rfl)) ?_
    refine ok_cons (ok_load (b := 0) (off := 0) (c := ck b0) (v := .agg (ck b0)) (ldK (b := b0) 23) rfl (by kernel_rfl) rfl (by kernel_rfl) (by kernel_rfl) (by kernel_rfl)) ?_
    refine ok_cons (ok_call (vs := #[.agg (ck b0)]) (R := .agg (ai 22 (dg (ofb b0)))) (fun w => of_r h0 w) rfl (by kernel_rfl) rfl (by kernel_rfl) (by kernel_rfl) (by kernel_rfl) (fun w => by kernel_rfl)) ?_
    refine ok_cons (ok_load (b := 1) (off := 0) (c := ck b1) (v := .agg (ck b1)) (ldK (b := b1) 23) rfl (by kernel_rfl) rfl (by kernel_rfl) (by kernel_rfl) (by kernel_rfl)) ?_
    refine ok_cons (ok_call (vs := #[.agg (ck b1)]) (R := .agg (ai 22 (dg (ofb b1)))) (fun w => of_r h1 w) rfl (by kernel_rfl) rfl (by kernel_rfl) (by kernel_rfl) (by kernel_rfl) (fun w => by kernel_rfl)) ?_
    refine ok_cons (ok_call (vs := #[.agg (ai 22 (dg (ofb b0))), .agg (ai 22 (dg (ofb b1)))]) (R := .agg (ai 22 (dg ((ofb b0) * (ofb b1) % pp)))) (fun w => times_r (m := (ofb b0)) (n := (ofb b1)) (lt_big (by first | exact mod_pp _ | exact ofb_lt _ | assumption)) (lt_big (by first | exact mod_pp _ | exact ofb_lt _ | assumption)) w) rfl (by kernel_rfl) rfl (by kernel_rfl) (by kernel_rfl) (by kernel_rfl) (fun w => by kernel_rfl)) ?_
    refine ok_cons (ok_call (vs := #[el (dig ((ofb b0) * (ofb b1) % pp)), .agg (ai 22 (dg ((ofb b0) * (ofb b1) % pp)))]) (R := .bool true) (fun w => same_r (mod_pp _) w) rfl (by kernel_rfl) rfl (by kernel_rfl) (by kernel_rfl) (by kernel_rfl) (fun w => by kernel_rfl)) ?_
    refine ok_cons (ok_pick_t rfl (by kernel_rfl) rfl (by kernel_rfl) (by kernel_rfl) (by kernel_rfl) (by kernel_rfl)) ?_
    refine ok_cons (ok_mv (Or.inr rfl) (by kernel_rfl) rfl (by kernel_rfl) (by kernel_rfl)) ?_
    exact ok_nil
  clear h; intro β a w h
  refine sym_then ?_
  refine wp_ret ?_
  exact sym_ret h Try.results5 (by kernel_rfl) (by kernel_rfl) (fun hb => ⟨rfl, hb⟩)
end Go.Proofs.Ytchbkkjjbdgdoaa

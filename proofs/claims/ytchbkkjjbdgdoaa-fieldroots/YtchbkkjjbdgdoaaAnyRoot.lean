/- The contract of anyRoot: a power, mended by a root of -1 where its square is not the number. -/
import Derived.Test.YtchbkkjjbdgdoaaU
import Derived.Test.YtchbkkjjbdgdoaaX4
namespace Go.Proofs.Ytchbkkjjbdgdoaa
open Go.RowKit

theorem iRt_lt : iRt < pp := by decide +kernel
/-- The root, out of the power. -/
def aRt (R m : Nat) : Nat := if R * R % pp = m then R else R * iRt % pp
theorem aRt_lt {R m : Nat} (h : R < pp) : aRt R m < pp := by unfold aRt; split <;> first | exact h | exact mod_pp _
theorem aRt_t {R m : Nat} (h : R * R % pp = m) : aRt R m = R := if_pos h
theorem aRt_f {R m : Nat} (h : ¬ R * R % pp = m) : aRt R m = R * iRt % pp := if_neg h
theorem root_exp {m E k R : Nat} (hE : E = 1809251394333065553493296640760748560207343510400633813116524750123642650623) (hk : k = 7237005577332262213973186563042994240829374041602535252466099000494570602494) (hR : R = (m ^ E % pp) ^ 2 ^ 2 * (m * m % pp) % pp) : R = m ^ k % pp := by
  rw [hR, Nat.mul_mod_mod, ← Nat.mod_mul_mod, ← Nat.pow_mod, Nat.mod_mul_mod, ← Nat.pow_mul]
  have : m ^ (E * 2 ^ 2) * (m * m) = m ^ k := by
    rw [← Nat.pow_two, ← Nat.pow_add]
    congr 1
    rw [hE, hk]
  rw [this]

set_option maxHeartbeats 4000000 in
theorem anyRoot_d {m : Nat} (hm : m < pp) : ∃ k : Nat, Hid (k = 7237005577332262213973186563042994240829374041602535252466099000494570602494) ∧ ∀ w, Calls Try.prog 41 #[el (dig m)] w fun e w' => e = .returned (.tuple #[el (dig (aRt (m ^ k % pp) m)), .bool (decide (aRt (m ^ k % pp) m * aRt (m ^ k % pp) m % pp = m))]) ∧ Below w.heap.size w w' := by
  obtain ⟨E, hE, c1⟩ := ones_d hm
  have c2 := fun w => times_d hm hm w
  obtain ⟨k, hk⟩ : ∃ k : Nat, Hid (k = 7237005577332262213973186563042994240829374041602535252466099000494570602494) := ⟨_, hide1 rfl⟩
  obtain ⟨R, hR⟩ : ∃ R, Hid (R = (m ^ E % pp) ^ 2 ^ 2 * (m * m % pp) % pp) := ⟨_, hide1 rfl⟩
  have hRl : R < pp := by rw [hR.out]; exact mod_pp _
  have c48 := iroot_d
  have hi2l := iRt_lt
  have hat : ∀ R m, ¬ R * R % pp = m → aRt R m = R * iRt % pp := fun R m h => aRt_f h
  generalize iRt = i2 at c48 hi2l hat
  refine ⟨k, hk, fun W0 => ?_⟩
  rw [← root_exp hE.out hk.out hR.out]
  refine sym_enter Try.func41 Try.ntmps41 rfl [.inl (el (dig m)), .inl undef, .inl undef, .inl undef, .inl undef, .inl undef, .inl undef, .inl undef, .inl undef, .inl undef, .inl undef, .inl undef, .inl undef, .inl undef, .inl undef, .inl undef, .inl undef, .inl undef, .inl undef, .inl undef, .inl undef, .inl undef, .inl undef, .inl undef, .inl undef, .inl undef, .inl undef, .inl undef] (by kernel_rfl) (by kernel_rfl) ?_
  intro β a h
  refine sym_seq ?_
  refine St.region h [.inl (el (dig m)), .inr (0, 0), .inr (1, 0), .inl (.bool false), .inl undef, .inl undef, .inl undef, .inl undef, .inl undef, .inl undef, .inl undef, .inl undef, .inl undef, .inl undef, .inl undef, .inl undef, .inl undef, .inl undef, .inl undef, .inl undef, .inl undef, .inl undef, .inl undef, .inl undef, .inl undef, .inl undef, .inl undef, .inl undef] [.inl (el (dig m)), .inl undef, .inl undef, .inl undef, .inl undef, .inl undef, .inl undef, .inl undef, .inl undef, .inl undef, .inl undef, .inl undef, .inl undef, .inl undef, .inl undef, .inl undef, .inl undef, .inl undef, .inl undef, .inl undef, .inl undef, .inl undef, .inl undef, .inl undef, .inl undef, .inl undef, .inl undef, .inl undef] [(ce m, 33), (ce 0, 33)] [(ce m, 33), (ce 0, 33)] [#[], #[]] [⟨some 0, none, none, false⟩, ⟨some 1, none, none, false⟩, ⟨none, none, none, false⟩] (by kernel_rfl) (by kernel_rfl) (by kernel_rfl) (by kernel_rfl) (by kernel_rfl) (by kernel_rfl) (by kernel_rfl) (by kernel_rfl) (by kernel_rfl) ?_ ?_
  · refine ok_cons (ok_box (b := 0) (u := el (dig m)) (bxE (n := m)) rfl (by kernel_rfl) rfl (by kernel_rfl) (by kernel_rfl) (by kernel_rfl) (by kernel_rfl)) ?_
    refine ok_cons (ok_alloc (b := 1) alE rfl (by kernel_rfl) rfl (by kernel_rfl) (by kernel_rfl)) ?_
    refine ok_cons (ok_mv (Or.inr rfl) (by kernel_rfl) rfl (by kernel_rfl) (by kernel_rfl)) ?_
    exact ok_nil
  clear h; intro β a w h
  refine sym_then ?_
  have ra := h.row 0 _ rfl
  have rr := h.row 1 _ rfl
  have hw := h.bel
  have o0 := h.old 0 (by simp)
  have o1 := h.old 1 (by simp)
  have n01 : β 0 ≠ β 1 := fun e => by have := h.inj 0 1 (by simp) (by simp) e; omega
  obtain rfl : a = { tmps := #[el (dig m), .pointer (some ⟨β 0, 0, none⟩), .pointer (some ⟨β 1, 0, none⟩), .bool false, undef, undef, undef, undef, undef, undef, undef, undef, undef, undef, undef, undef, undef, undef, undef, undef, undef, undef, undef, undef, undef, undef, undef, undef], defers := [] } := h.tm
  clear h
  refine seq_gen fun QQ hQQ => ?_
  go_wp2_with (refine wpList_load_agg rfl 33 (.tmp 1) rfl (β 0) _ _ rfl Try.underlying33 rfl (by kernel_rfl) ra ?_)
  refine (c1 _).mono ?_
  rintro e u1 ⟨b, rfl, hb, hb1, rb⟩
  have nb0 : β 0 ≠ b := by have := row_lt ra; omega
  have nb1 : β 1 ≠ b := by have := row_lt rr; omega
  have obb := Nat.le_trans hw.size hb
  replace ra := row_below ra hb1
  replace rr := row_below rr hb1
  replace hw := bnext hw hb1
  clear c1 hb1 hb
  go_wp2_with fail
  refine hQQ.out _ _ ?_
  clear hQQ QQ
  refine seq_gen fun QQ hQQ => ?_
  go_wp2_with (refine wpList_load_agg rfl 33 (.tmp 1) rfl (β 0) _ _ rfl Try.underlying33 rfl (by kernel_rfl) ra ?_)
  refine (c2 _).mono ?_
  rintro e u2 ⟨rfl, hb2⟩
  replace ra := row_below ra hb2
  replace rr := row_below rr hb2
  replace rb := row_below rb hb2
  replace hw := bnext hw hb2
  clear c2 hb2
  go_wp2_with fail
  refine (grow_d 2 b (by omega) (mod_pp _) (mod_pp _) _ _ rb).mono ?_
  rintro e u3 ⟨rfl, hmo, rb3⟩
  rw [← hR.out]
  replace hw := below_mod hw hmo obb
  replace ra := row_mod ra hmo nb0
  replace rr := row_mod rr hmo nb1
  have l0 := row_lt ra
  have l1 := row_lt rr
  replace ra := row_up (o := .cells (ce R) 33) ra
  replace rr := row_up (o := .cells (ce R) 33) rr
  go_wp2_with fail
  refine hQQ.out _ _ ?_
  clear hQQ QQ rb rb3 hmo
  have ry := row_new u3 (.cells (ce R) 33)
  have m0 : β 0 ≠ u3.heap.size := by omega
  have m1 : β 1 ≠ u3.heap.size := by omega
  refine with_st (st3 (W := W0) (s := [.inl (el (dig m)), .inr (0, 0), .inr (1, 0), .inl (.bool false), .inl (.func (.func 52) #[] #[.pointer (some ⟨b, 0, none⟩)]), .inr (2, 0), .inl (el (dig m)), .inl (.func (.func 52) #[] #[.pointer (some ⟨b, 0, none⟩)]), .inl (.func (.func 52) #[] #[.pointer (some ⟨b, 0, none⟩)]), .inl (el (dig m)), .inl (el (dig m)), .inl (el (dig (m * m % pp))), .inl (el (dig R)), .inl undef, .inl undef, .inl undef, .inl undef, .inl undef, .inl undef, .inl undef, .inl undef, .inl undef, .inl undef, .inl undef, .inl undef, .inl undef, .inl undef, .inl undef]) (p := β 0) (q := β 1) (r := u3.heap.size) (by kernel_rfl) (below_up hw (.cells (ce R) 33)) ra rr ry o0 o1 (by have := hw.size; omega) n01 m0 m1 (by kernel_rfl)) ?_
  intro a h
  by_cases h1 : R * R % pp = m
  · rw [aRt_t h1]
    refine sym_seq ?_
    refine sym_seq ?_
    refine St.region h [.inl (el (dig m)), .inr (0, 0), .inr (1, 0), .inl (.bool false), .inl (.func (.func 52) #[] #[.pointer (some ⟨b, 0, none⟩)]), .inr (2, 0), .inl (el (dig m)), .inl (.func (.func 52) #[] #[.pointer (some ⟨b, 0, none⟩)]), .inl (.func (.func 52) #[] #[.pointer (some ⟨b, 0, none⟩)]), .inl (el (dig m)), .inl (el (dig m)), .inl (el (dig (m * m % pp))), .inl (el (dig R)), .inl (el (dig R)), .inl (el (dig R)), .inl (el (dig (R * R % pp))), .inl (el (dig m)), .inl (.bool true), .inl (.bool false), .inl undef, .inl undef, .inl undef, .inl undef, .inl undef, .inl undef, .inl undef, .inl undef, .inl undef] [.inl (el (dig m)), .inr (0, 0), .inr (1, 0), .inl (.bool false), .inl (.func (.func 52) #[] #[.pointer (some ⟨b, 0, none⟩)]), .inr (2, 0), .inl (el (dig m)), .inl (.func (.func 52) #[] #[.pointer (some ⟨b, 0, none⟩)]), .inl (.func (.func 52) #[] #[.pointer (some ⟨b, 0, none⟩)]), .inl (el (dig m)), .inl (el (dig m)), .inl (el (dig (m * m % pp))), .inl (el (dig R)), .inl undef, .inl undef, .inl undef, .inl undef, .inl undef, .inl undef, .inl undef, .inl undef, .inl undef, .inl undef, .inl undef, .inl undef, .inl undef, .inl undef, .inl undef] [(ce m, 33), (ce 0, 33), (ce R, 33)] [(ce m, 33), (ce 0, 33), (ce R, 33)] [#[], #[], #[]] [⟨none, none, some 2, false⟩, ⟨none, none, some 2, false⟩, ⟨none, none, none, false⟩, ⟨none, none, some 0, false⟩, ⟨none, none, none, false⟩, ⟨none, none, none, false⟩] (by kernel_rfl) (by kernel_rfl) (by kernel_rfl) (by kernel_rfl) (by kernel_rfl) (by kernel_rfl) (by kernel_rfl) (by kernel_rfl) (by kernel_rfl) ?_ ?_
    · refine ok_cons (ok_load (b := 2) (off := 0) (c := ce R) (v := el (dig R)) (ldE (n := R) 33) rfl (by kernel_rfl) rfl (by kernel_rfl) (by kernel_rfl) (by kernel_rfl)) ?_
      refine ok_cons (ok_load (b := 2) (off := 0) (c := ce R) (v := el (dig R)) (ldE (n := R) 33) rfl (by kernel_rfl) rfl (by kernel_rfl) (by kernel_rfl) (by kernel_rfl)) ?_
      refine ok_cons (ok_call (vs := #[el (dig R), el (dig R)]) (R := el (dig (R * R % pp))) (fun w => times_d hRl hRl w) rfl (by kernel_rfl) rfl (by kernel_rfl) (by kernel_rfl) (by kernel_rfl) (fun w => by kernel_rfl)) ?_
      refine ok_cons (ok_load (b := 0) (off := 0) (c := ce m) (v := el (dig m)) (ldE (n := m) 33) rfl (by kernel_rfl) rfl (by kernel_rfl) (by kernel_rfl) (by kernel_rfl)) ?_
      refine ok_cons (ok_call (vs := #[el (dig (R * R % pp)), el (dig m)]) (R := .bool true) (fun w => is_t (mod_pp _) hm h1 w) rfl (by kernel_rfl) rfl (by kernel_rfl) (by kernel_rfl) (by kernel_rfl) (fun w => by kernel_rfl)) ?_
      refine ok_cons (ok_not (b := true) rfl (by kernel_rfl) rfl (by kernel_rfl) (by kernel_rfl) (by kernel_rfl)) ?_
      exact ok_nil
    clear h; intro β a w h
    refine sym_then ?_
    refine sym_cond_f h (by kernel_rfl) (by kernel_rfl) ?_
    refine wp_skip ?_
    refine sym_then ?_
    refine sym_seq ?_
    refine St.region h [.inl (el (dig m)), .inr (0, 0), .inr (1, 0), .inl (.bool (decide ((R * R % pp) = m))), .inl (.func (.func 52) #[] #[.pointer (some ⟨b, 0, none⟩)]), .inr (2, 0), .inl (el (dig m)), .inl (.func (.func 52) #[] #[.pointer (some ⟨b, 0, none⟩)]), .inl (.func (.func 52) #[] #[.pointer (some ⟨b, 0, none⟩)]), .inl (el (dig m)), .inl (el (dig m)), .inl (el (dig (m * m % pp))), .inl (el (dig R)), .inl (el (dig R)), .inl (el (dig R)), .inl (el (dig (R * R % pp))), .inl (el (dig m)), .inl (.bool true), .inl (.bool false), .inl undef, .inl undef, .inl undef, .inl (el (dig R)), .inl (el (dig R)), .inl (el (dig R)), .inl (el (dig (R * R % pp))), .inl (el (dig m)), .inl (.bool (decide ((R * R % pp) = m)))] [.inl (el (dig m)), .inr (0, 0), .inr (1, 0), .inl undef, .inl (.func (.func 52) #[] #[.pointer (some ⟨b, 0, none⟩)]), .inr (2, 0), .inl (el (dig m)), .inl (.func (.func 52) #[] #[.pointer (some ⟨b, 0, none⟩)]), .inl (.func (.func 52) #[] #[.pointer (some ⟨b, 0, none⟩)]), .inl (el (dig m)), .inl (el (dig m)), .inl (el (dig (m * m % pp))), .inl (el (dig R)), .inl (el (dig R)), .inl (el (dig R)), .inl (el (dig (R * R % pp))), .inl (el (dig m)), .inl (.bool true), .inl (.bool false), .inl undef, .inl undef, .inl undef, .inl undef, .inl undef, .inl undef, .inl undef, .inl undef, .inl undef] [(ce m, 33), (ce R, 33), (ce R, 33)] [(ce m, 33), (ce 0, 33), (ce R, 33)] [#[], ce R, #[]] [⟨none, none, some 2, false⟩, ⟨none, none, some 2, false⟩, ⟨none, none, some 2, false⟩, ⟨none, none, none, false⟩, ⟨none, none, some 0, false⟩, ⟨none, none, none, false⟩, ⟨none, some 1, none, false⟩, ⟨none, none, none, false⟩] (by kernel_rfl) (by kernel_rfl) (by kernel_rfl) (by kernel_rfl) (by kernel_rfl) (by kernel_rfl) (by kernel_rfl) (by kernel_rfl) (by kernel_rfl) ?_ ?_
    · refine ok_cons (ok_load (b := 2) (off := 0) (c := ce R) (v := el (dig R)) (ldE (n := R) 33) rfl (by kernel_rfl) rfl (by kernel_rfl) (by kernel_rfl) (by kernel_rfl)) ?_
      refine ok_cons (ok_load (b := 2) (off := 0) (c := ce R) (v := el (dig R)) (ldE (n := R) 33) rfl (by kernel_rfl) rfl (by kernel_rfl) (by kernel_rfl) (by kernel_rfl)) ?_
      refine ok_cons (ok_load (b := 2) (off := 0) (c := ce R) (v := el (dig R)) (ldE (n := R) 33) rfl (by kernel_rfl) rfl (by kernel_rfl) (by kernel_rfl) (by kernel_rfl)) ?_
      refine ok_cons (ok_call (vs := #[el (dig R), el (dig R)]) (R := el (dig (R * R % pp))) (fun w => times_d hRl hRl w) rfl (by kernel_rfl) rfl (by kernel_rfl) (by kernel_rfl) (by kernel_rfl) (fun w => by kernel_rfl)) ?_
      refine ok_cons (ok_load (b := 0) (off := 0) (c := ce m) (v := el (dig m)) (ldE (n := m) 33) rfl (by kernel_rfl) rfl (by kernel_rfl) (by kernel_rfl) (by kernel_rfl)) ?_
      refine ok_cons (ok_call (vs := #[el (dig (R * R % pp)), el (dig m)]) (R := .bool (decide ((R * R % pp) = m))) (fun w => is_d (mod_pp _) hm w) rfl (by kernel_rfl) rfl (by kernel_rfl) (by kernel_rfl) (by kernel_rfl) (fun w => by kernel_rfl)) ?_
      refine ok_cons (ok_store (b := 1) (off := 0) (u := el (dig R)) (c := ce 0) (n := ce R) (stE (n := R) (c := ce 0) 33 (ce_size _)) rfl (by kernel_rfl) rfl (by kernel_rfl) (by kernel_rfl) (by kernel_rfl) (by kernel_rfl) (by kernel_rfl)) ?_
      refine ok_cons (ok_mv (Or.inr rfl) (by kernel_rfl) rfl (by kernel_rfl) (by kernel_rfl)) ?_
      exact ok_nil
    clear h; intro β a w h
    refine sym_then ?_
    refine wp_ret ?_
    exact sym_ret2 (b := 1) (t0 := 33) (c := ce R) h Try.results41 (by kernel_rfl) (by kernel_rfl) (by kernel_rfl) (by kernel_rfl) (by kernel_rfl) Try.underlying33 rfl (by kernel_rfl) (fun hb => ⟨rfl, hb⟩)
  · rw [hat _ _ h1]
    refine sym_seq ?_
    refine sym_seq ?_
    refine St.region h [.inl (el (dig m)), .inr (0, 0), .inr (1, 0), .inl (.bool false), .inl (.func (.func 52) #[] #[.pointer (some ⟨b, 0, none⟩)]), .inr (2, 0), .inl (el (dig m)), .inl (.func (.func 52) #[] #[.pointer (some ⟨b, 0, none⟩)]), .inl (.func (.func 52) #[] #[.pointer (some ⟨b, 0, none⟩)]), .inl (el (dig m)), .inl (el (dig m)), .inl (el (dig (m * m % pp))), .inl (el (dig R)), .inl (el (dig R)), .inl (el (dig R)), .inl (el (dig (R * R % pp))), .inl (el (dig m)), .inl (.bool false), .inl (.bool true), .inl undef, .inl undef, .inl undef, .inl undef, .inl undef, .inl undef, .inl undef, .inl undef, .inl undef] [.inl (el (dig m)), .inr (0, 0), .inr (1, 0), .inl (.bool false), .inl (.func (.func 52) #[] #[.pointer (some ⟨b, 0, none⟩)]), .inr (2, 0), .inl (el (dig m)), .inl (.func (.func 52) #[] #[.pointer (some ⟨b, 0, none⟩)]), .inl (.func (.func 52) #[] #[.pointer (some ⟨b, 0, none⟩)]), .inl (el (dig m)), .inl (el (dig m)), .inl (el (dig (m * m % pp))), .inl (el (dig R)), .inl undef, .inl undef, .inl undef, .inl undef, .inl undef, .inl undef, .inl undef, .inl undef, .inl undef, .inl undef, .inl undef, .inl undef, .inl undef, .inl undef, .inl undef] [(ce m, 33), (ce 0, 33), (ce R, 33)] [(ce m, 33), (ce 0, 33), (ce R, 33)] [#[], #[], #[]] [⟨none, none, some 2, false⟩, ⟨none, none, some 2, false⟩, ⟨none, none, none, false⟩, ⟨none, none, some 0, false⟩, ⟨none, none, none, false⟩, ⟨none, none, none, false⟩] (by kernel_rfl) (by kernel_rfl) (by kernel_rfl) (by kernel_rfl) (by kernel_rfl) (by kernel_rfl) (by kernel_rfl) (by kernel_rfl) (by kernel_rfl) ?_ ?_
    · refine ok_cons (ok_load (b := 2) (off := 0) (c := ce R) (v := el (dig R)) (ldE (n := R) 33) rfl (by kernel_rfl) rfl (by kernel_rfl) (by kernel_rfl) (by kernel_rfl)) ?_
      refine ok_cons (ok_load (b := 2) (off := 0) (c := ce R) (v := el (dig R)) (ldE (n := R) 33) rfl (by kernel_rfl) rfl (by kernel_rfl) (by kernel_rfl) (by kernel_rfl)) ?_
      refine ok_cons (ok_call (vs := #[el (dig R), el (dig R)]) (R := el (dig (R * R % pp))) (fun w => times_d hRl hRl w) rfl (by kernel_rfl) rfl (by kernel_rfl) (by kernel_rfl) (by kernel_rfl) (fun w => by kernel_rfl)) ?_
      refine ok_cons (ok_load (b := 0) (off := 0) (c := ce m) (v := el (dig m)) (ldE (n := m) 33) rfl (by kernel_rfl) rfl (by kernel_rfl) (by kernel_rfl) (by kernel_rfl)) ?_
      refine ok_cons (ok_call (vs := #[el (dig (R * R % pp)), el (dig m)]) (R := .bool false) (fun w => is_f (mod_pp _) hm h1 w) rfl (by kernel_rfl) rfl (by kernel_rfl) (by kernel_rfl) (by kernel_rfl) (fun w => by kernel_rfl)) ?_
      refine ok_cons (ok_not (b := false) rfl (by kernel_rfl) rfl (by kernel_rfl) (by kernel_rfl) (by kernel_rfl)) ?_
      exact ok_nil
    clear h; intro β a w h
    refine sym_then ?_
    refine sym_cond_t h (by kernel_rfl) (by kernel_rfl) ?_
    refine St.region h [.inl (el (dig m)), .inr (0, 0), .inr (1, 0), .inl (.bool false), .inl (.func (.func 52) #[] #[.pointer (some ⟨b, 0, none⟩)]), .inr (2, 0), .inl (el (dig m)), .inl (.func (.func 52) #[] #[.pointer (some ⟨b, 0, none⟩)]), .inl (.func (.func 52) #[] #[.pointer (some ⟨b, 0, none⟩)]), .inl (el (dig m)), .inl (el (dig m)), .inl (el (dig (m * m % pp))), .inl (el (dig R)), .inl (el (dig R)), .inl (el (dig R)), .inl (el (dig (R * R % pp))), .inl (el (dig m)), .inl (.bool false), .inl (.bool true), .inl (el (dig R)), .inl (el (dig i2)), .inl (el (dig (R * i2 % pp))), .inl undef, .inl undef, .inl undef, .inl undef, .inl undef, .inl undef] [.inl (el (dig m)), .inr (0, 0), .inr (1, 0), .inl (.bool false), .inl (.func (.func 52) #[] #[.pointer (some ⟨b, 0, none⟩)]), .inr (2, 0), .inl (el (dig m)), .inl (.func (.func 52) #[] #[.pointer (some ⟨b, 0, none⟩)]), .inl (.func (.func 52) #[] #[.pointer (some ⟨b, 0, none⟩)]), .inl (el (dig m)), .inl (el (dig m)), .inl (el (dig (m * m % pp))), .inl (el (dig R)), .inl (el (dig R)), .inl (el (dig R)), .inl (el (dig (R * R % pp))), .inl (el (dig m)), .inl (.bool false), .inl (.bool true), .inl undef, .inl undef, .inl undef, .inl undef, .inl undef, .inl undef, .inl undef, .inl undef, .inl undef] [(ce m, 33), (ce 0, 33), (ce (R * i2 % pp), 33)] [(ce m, 33), (ce 0, 33), (ce R, 33)] [#[], #[], ce (R * i2 % pp)] [⟨none, none, some 2, false⟩, ⟨none, none, none, false⟩, ⟨none, none, none, false⟩, ⟨none, some 2, none, false⟩] (by kernel_rfl) (by kernel_rfl) (by kernel_rfl) (by kernel_rfl) (by kernel_rfl) (by kernel_rfl) (by kernel_rfl) (by kernel_rfl) (by kernel_rfl) ?_ ?_
    · refine ok_cons (ok_load (b := 2) (off := 0) (c := ce R) (v := el (dig R)) (ldE (n := R) 33) rfl (by kernel_rfl) rfl (by kernel_rfl) (by kernel_rfl) (by kernel_rfl)) ?_
      refine ok_cons (ok_call (vs := #[]) (R := el (dig i2)) (fun w => c48 w) rfl (by kernel_rfl) rfl (by kernel_rfl) (by kernel_rfl) (by kernel_rfl) (fun w => by kernel_rfl)) ?_
      refine ok_cons (ok_call (vs := #[el (dig R), el (dig i2)]) (R := el (dig (R * i2 % pp))) (fun w => times_d hRl hi2l w) rfl (by kernel_rfl) rfl (by kernel_rfl) (by kernel_rfl) (by kernel_rfl) (fun w => by kernel_rfl)) ?_
      refine ok_cons (ok_store (b := 2) (off := 0) (u := el (dig (R * i2 % pp))) (c := ce R) (n := ce (R * i2 % pp)) (stE (n := (R * i2 % pp)) (c := ce R) 33 (ce_size _)) rfl (by kernel_rfl) rfl (by kernel_rfl) (by kernel_rfl) (by kernel_rfl) (by kernel_rfl) (by kernel_rfl)) ?_
      exact ok_nil
    clear h; intro β a w h
    refine sym_then ?_
    refine sym_seq ?_
    refine St.region h [.inl (el (dig m)), .inr (0, 0), .inr (1, 0), .inl (.bool (decide (((R * i2 % pp) * (R * i2 % pp) % pp) = m))), .inl (.func (.func 52) #[] #[.pointer (some ⟨b, 0, none⟩)]), .inr (2, 0), .inl (el (dig m)), .inl (.func (.func 52) #[] #[.pointer (some ⟨b, 0, none⟩)]), .inl (.func (.func 52) #[] #[.pointer (some ⟨b, 0, none⟩)]), .inl (el (dig m)), .inl (el (dig m)), .inl (el (dig (m * m % pp))), .inl (el (dig R)), .inl (el (dig R)), .inl (el (dig R)), .inl (el (dig (R * R % pp))), .inl (el (dig m)), .inl (.bool false), .inl (.bool true), .inl (el (dig R)), .inl (el (dig i2)), .inl (el (dig (R * i2 % pp))), .inl (el (dig (R * i2 % pp))), .inl (el (dig (R * i2 % pp))), .inl (el (dig (R * i2 % pp))), .inl (el (dig ((R * i2 % pp) * (R * i2 % pp) % pp))), .inl (el (dig m)), .inl (.bool (decide (((R * i2 % pp) * (R * i2 % pp) % pp) = m)))] [.inl (el (dig m)), .inr (0, 0), .inr (1, 0), .inl undef, .inl (.func (.func 52) #[] #[.pointer (some ⟨b, 0, none⟩)]), .inr (2, 0), .inl (el (dig m)), .inl (.func (.func 52) #[] #[.pointer (some ⟨b, 0, none⟩)]), .inl (.func (.func 52) #[] #[.pointer (some ⟨b, 0, none⟩)]), .inl (el (dig m)), .inl (el (dig m)), .inl (el (dig (m * m % pp))), .inl (el (dig R)), .inl (el (dig R)), .inl (el (dig R)), .inl (el (dig (R * R % pp))), .inl (el (dig m)), .inl (.bool false), .inl (.bool true), .inl (el (dig R)), .inl (el (dig i2)), .inl (el (dig (R * i2 % pp))), .inl undef, .inl undef, .inl undef, .inl undef, .inl undef, .inl undef] [(ce m, 33), (ce (R * i2 % pp), 33), (ce (R * i2 % pp), 33)] [(ce m, 33), (ce 0, 33), (ce (R * i2 % pp), 33)] [#[], ce (R * i2 % pp), #[]] [⟨none, none, some 2, false⟩, ⟨none, none, some 2, false⟩, ⟨none, none, some 2, false⟩, ⟨none, none, none, false⟩, ⟨none, none, some 0, false⟩, ⟨none, none, none, false⟩, ⟨none, some 1, none, false⟩, ⟨none, none, none, false⟩] (by kernel_rfl) (by kernel_rfl) (by kernel_rfl) (by kernel_rfl) (by kernel_rfl) (by kernel_rfl) (by kernel_rfl) (by kernel_rfl) (by kernel_rfl) ?_ ?_
    · refine ok_cons (ok_load (b := 2) (off := 0) (c := ce (R * i2 % pp)) (v := el (dig (R * i2 % pp))) (ldE (n := (R * i2 % pp)) 33) rfl (by kernel_rfl) rfl (by kernel_rfl) (by kernel_rfl) (by kernel_rfl)) ?_
      refine ok_cons (ok_load (b := 2) (off := 0) (c := ce (R * i2 % pp)) (v := el (dig (R * i2 % pp))) (ldE (n := (R * i2 % pp)) 33) rfl (by kernel_rfl) rfl (by kernel_rfl) (by kernel_rfl) (by kernel_rfl)) ?_
      refine ok_cons (ok_load (b := 2) (off := 0) (c := ce (R * i2 % pp)) (v := el (dig (R * i2 % pp))) (ldE (n := (R * i2 % pp)) 33) rfl (by kernel_rfl) rfl (by kernel_rfl) (by kernel_rfl) (by kernel_rfl)) ?_
      refine ok_cons (ok_call (vs := #[el (dig (R * i2 % pp)), el (dig (R * i2 % pp))]) (R := el (dig ((R * i2 % pp) * (R * i2 % pp) % pp))) (fun w => times_d (mod_pp _) (mod_pp _) w) rfl (by kernel_rfl) rfl (by kernel_rfl) (by kernel_rfl) (by kernel_rfl) (fun w => by kernel_rfl)) ?_
      refine ok_cons (ok_load (b := 0) (off := 0) (c := ce m) (v := el (dig m)) (ldE (n := m) 33) rfl (by kernel_rfl) rfl (by kernel_rfl) (by kernel_rfl) (by kernel_rfl)) ?_
      refine ok_cons (ok_call (vs := #[el (dig ((R * i2 % pp) * (R * i2 % pp) % pp)), el (dig m)]) (R := .bool (decide (((R * i2 % pp) * (R * i2 % pp) % pp) = m))) (fun w => is_d (mod_pp _) hm w) rfl (by kernel_rfl) rfl (by kernel_rfl) (by kernel_rfl) (by kernel_rfl) (fun w => by kernel_rfl)) ?_
      refine ok_cons (ok_store (b := 1) (off := 0) (u := el (dig (R * i2 % pp))) (c := ce 0) (n := ce (R * i2 % pp)) (stE (n := (R * i2 % pp)) (c := ce 0) 33 (ce_size _)) rfl (by kernel_rfl) rfl (by kernel_rfl) (by kernel_rfl) (by kernel_rfl) (by kernel_rfl) (by kernel_rfl)) ?_
      refine ok_cons (ok_mv (Or.inr rfl) (by kernel_rfl) rfl (by kernel_rfl) (by kernel_rfl)) ?_
      exact ok_nil
    clear h; intro β a w h
    refine sym_then ?_
    refine wp_ret ?_
    exact sym_ret2 (b := 1) (t0 := 33) (c := ce (R * i2 % pp)) h Try.results41 (by kernel_rfl) (by kernel_rfl) (by kernel_rfl) (by kernel_rfl) (by kernel_rfl) Try.underlying33 rfl (by kernel_rfl) (fun hb => ⟨rfl, hb⟩)
end Go.Proofs.Ytchbkkjjbdgdoaa

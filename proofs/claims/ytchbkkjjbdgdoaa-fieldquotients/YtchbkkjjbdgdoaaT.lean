/- The contract of the statements' fixed fact: the chapter's examples hold. -/
import Derived.Test.YtchbkkjjbdgdoaaS
namespace Go.Proofs.Ytchbkkjjbdgdoaa
open Go.RowKit

theorem key_d {m : Nat} (hm : m < pp) (w : World) : Calls Try.prog 28 #[el (dig m)] w fun e w' => e = .returned (.agg (arr 32 fun i => .int .u8 (byt (dig m) i))) ∧ Below w.heap.size w w' :=
  key_any _ (dig_ok hm).1 w

/-- A number times its power by the prime less 2. -/
theorem inv_one {m k : Nat} (hm : m < pp) (h0 : m ≠ 0) (hk : k = 57896044618658097711785492504343953926634992332820282019728792003956564819947) : m * (m ^ k % pp) % pp = 1 := by
  have hp : Prm pp := prmP
  have hd : ¬ pp ∣ m := fun h => by have := Nat.le_of_dvd (by omega) h; omega
  have h := fermat hp m hd
  have e : pp - 1 = k + 1 := by rw [hk]; rfl
  rw [e, Nat.pow_succ, Nat.mul_comm] at h
  rw [Nat.mul_mod_mod]; exact h

theorem byt_one : ∀ i, i < 32 → byt (dig 1) i = if i = 0 then 1 else 0 := by decide +kernel

theorem one_get (i : Nat) (hi : i < 32) : (#[.int .u8 1, .int .u8 0, .int .u8 0, .int .u8 0, .int .u8 0, .int .u8 0, .int .u8 0, .int .u8 0, .int .u8 0, .int .u8 0, .int .u8 0, .int .u8 0, .int .u8 0, .int .u8 0, .int .u8 0, .int .u8 0, .int .u8 0, .int .u8 0, .int .u8 0, .int .u8 0, .int .u8 0, .int .u8 0, .int .u8 0, .int .u8 0, .int .u8 0, .int .u8 0, .int .u8 0, .int .u8 0, .int .u8 0, .int .u8 0, .int .u8 0, .int .u8 0] : Array Value)[i]? = some (.int .u8 (if i = 0 then 1 else 0)) := by
  have e : (#[.int .u8 1, .int .u8 0, .int .u8 0, .int .u8 0, .int .u8 0, .int .u8 0, .int .u8 0, .int .u8 0, .int .u8 0, .int .u8 0, .int .u8 0, .int .u8 0, .int .u8 0, .int .u8 0, .int .u8 0, .int .u8 0, .int .u8 0, .int .u8 0, .int .u8 0, .int .u8 0, .int .u8 0, .int .u8 0, .int .u8 0, .int .u8 0, .int .u8 0, .int .u8 0, .int .u8 0, .int .u8 0, .int .u8 0, .int .u8 0, .int .u8 0, .int .u8 0] : Array Value) = ⟨.int .u8 1 :: List.replicate 31 (.int .u8 0)⟩ := rfl
  rw [e]
  cases i with
  | zero => rfl
  | succ i =>
    rw [← Array.getElem?_toList, List.getElem?_cons_succ, List.getElem?_replicate, if_pos (by omega), if_neg (by omega)]

theorem eq_one (w : World) : (Op.equalIn 10000 23 (.agg (arr 32 fun i => .int .u8 (byt (dig 1) i))) (.agg #[.int .u8 1, .int .u8 0, .int .u8 0, .int .u8 0, .int .u8 0, .int .u8 0, .int .u8 0, .int .u8 0, .int .u8 0, .int .u8 0, .int .u8 0, .int .u8 0, .int .u8 0, .int .u8 0, .int .u8 0, .int .u8 0, .int .u8 0, .int .u8 0, .int .u8 0, .int .u8 0, .int .u8 0, .int .u8 0, .int .u8 0, .int .u8 0, .int .u8 0, .int .u8 0, .int .u8 0, .int .u8 0, .int .u8 0, .int .u8 0, .int .u8 0, .int .u8 0])).run Try.prog w = .ok true w := by
  rw [eq_ints (e := 5) (n := 32) (k := .u8) (k' := .u8) Try.underlying23 (inf := _) rfl (by kernel_rfl) Try.underlying5 (fun _ => by kernel_rfl) _ _ (fun i => (byt (dig 1) i : Int)) (fun i => if i = 0 then 1 else 0)
    (fun i hi => arr_get _ _ _ hi) (fun i hi => one_get i hi) w]
  rw [decide_eq_true]
  intro i hi
  rw [byt_one i hi]
  split <;> rfl

set_option maxHeartbeats 2000000 in
theorem alive_any (w : World) : Calls Try.prog 10 #[] w fun e w' => e = .returned (.bool true) ∧ Below w.heap.size w w' := by
  obtain ⟨k, hk, c3⟩ := over_d (m := 7) (n := 7) (by decide +kernel) (by decide +kernel)
  have c3' : ∀ w, Calls Try.prog 23 #[el (dig 7), el (dig 7)] w fun e w' => e = .returned (el (dig 1)) ∧ Below w.heap.size w w' := by
    rw [inv_one (by decide +kernel) (by omega) hk.out] at c3; exact c3
  clear c3 hk
  have c1 : ∀ w, Calls Try.prog 13 #[.int .i64 (-1)] w fun e w' => e = .returned (el (dig (pp - 1))) ∧ Below w.heap.size w w' := fun w => int_neg_d (m := 1) (by omega) (by omega) w
  have c2 : ∀ w, Calls Try.prog 13 #[.int .i64 7] w fun e w' => e = .returned (el (dig 7)) ∧ Below w.heap.size w w' := fun w => int_pos_d (m := 7) (by omega) w
  have c4 := fun w => key_d (m := pp - 1) (by decide +kernel) w
  have c5 := fun w => key_d (m := 1) (by decide +kernel) w
  have h0 : ((byt (dig (pp - 1)) 0 : Nat) : Int) = 236 := by decide +kernel
  have h31 : ((byt (dig (pp - 1)) 31 : Nat) : Int) = 127 := by decide +kernel
  have heq := eq_one
  obtain ⟨F, hF⟩ : ∃ F : Nat → Nat, Hid (F = byt (dig (pp - 1))) := ⟨_, hide1 rfl⟩
  obtain ⟨G, hG⟩ : ∃ G : Nat → Nat, Hid (G = byt (dig 1)) := ⟨_, hide1 rfl⟩
  rw [← hF.out] at c4 h0 h31
  rw [← hG.out] at c5 heq
  have hA1 := @arr_get; have hA2 := @aft_cell
  generalize dig (pp - 1) = d0 at *
  generalize dig 7 = d7 at *
  generalize dig 1 = d1 at *
  clear hF hG
  go_enter Try.func10, Try.ntmps10
  go_wp2_with fail
  refine (c1 _).mono ?_
  rintro e w1 ⟨rfl, hb1⟩
  go_wp2_with fail
  refine (c4 _).mono ?_
  rintro e w2 ⟨rfl, hb2⟩
  have hbw := bnext hb1 hb2
  clear hb1 hb2 c1 c4
  go_wp2_with (refine wpList_store_row rfl 23 (.tmp 1) (.tmp 3) rfl w2.heap.size _ _ _ rfl rfl (by rw [arr_size]; kernel_rfl) (row_new _ _) (by rw [arr_size]; rfl) arr_one (World.setRow_alloc_new _ _ _ _) ?_)
  refine (c2 _).mono ?_
  rintro e w3 ⟨rfl, hb3⟩
  go_wp2_with fail
  refine (c2 _).mono ?_
  rintro e w4 ⟨rfl, hb4⟩
  go_wp2_with fail
  refine (c3' _).mono ?_
  rintro e w5 ⟨rfl, hb5⟩
  go_wp2_with fail
  refine (c5 _).mono ?_
  rintro e w6 ⟨rfl, hb6⟩
  have hbz := bnext (bnext (bnext (bnext (bnext hbw (below1 _ _)) hb3) hb4) hb5) hb6
  clear hb3 hb4 hb5 hb6 hbw c2 c3' c5
  go_wp2
  go_ret
  exact ⟨rfl, hbz⟩
end Go.Proofs.Ytchbkkjjbdgdoaa

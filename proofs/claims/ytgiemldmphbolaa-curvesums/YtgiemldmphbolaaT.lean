/- The contract of the statements' fixed fact: the chapter's examples hold. -/
import Derived.Test.YtgiemldmphbolaaS
namespace Go.Proofs.Ytgiemldmphbolaa
open Go.RowKit

theorem key_d {m : Nat} (hm : m < pp) (w : World) : Calls Try.prog 29 #[el (dig m)] w fun e w' => e = .returned (.agg (arr 32 fun i => .int .u8 (byt (dig m) i))) ∧ Below w.heap.size w w' :=
  key_any _ (dig_ok hm).1 w

/-- A number times its power by the prime less 2. -/
theorem inv_one {m k : Nat} (hm : m < pp) (h0 : m ≠ 0) (hk : k = 57896044618658097711785492504343953926634992332820282019728792003956564819947) : m * (m ^ k % pp) % pp = 1 := by
  have hp : Prm pp := prmP
  have hd : ¬ pp ∣ m := fun h => by have := Nat.le_of_dvd (by omega) h; omega
  have h := fermat hp m hd
  have e : pp - 1 = k + 1 := by rw [hk]; rfl
  rw [e, Nat.pow_succ, Nat.mul_comm] at h
  rw [Nat.mul_mod_mod]; exact h

theorem byt_one : ∀ i, i < 32 → byt (dig 1) i = if i = 0 then 1 else 0 := by decide +kernel

theorem one_get (i : Nat) (hi : i < 32) : (#[.int .u8 1, .int .u8 0, .int .u8 0, .int .u8 0, .int .u8 0, .int .u8 0, .int .u8 0, .int .u8 0, .int .u8 0, .int .u8 0, .int .u8 0, .int .u8 0, .int .u8 0, .int .u8 0, .int .u8 0, .int .u8 0, .int .u8 0, .int .u8 0, .int .u8 0, .int .u8 0, .int .u8 0, .int .u8 0, .int .u8 0, .int .u8 0, .int .u8 0, .int .u8 0, .int .u8 0, .int .u8 0, .int .u8 0, .int .u8 0, .int .u8 0, .int .u8 0] : Array Value)[i]? = some (.int .u8 (if i = 0 then 1 else 0)) := by
  have e : (#[.int .u8 1, .int .u8 0, .int .u8 0, .int .u8 0, .int .u8 0, .int .u8 0, .int .u8 0, .int .u8 0, .int .u8 0, .int .u8 0, .int .u8 0, .int .u8 0, .int .u8 0, .int .u8 0, .int .u8 0, .int .u8 0, .int .u8 0, .int .u8 0, .int .u8 0, .int .u8 0, .int .u8 0, .int .u8 0, .int .u8 0, .int .u8 0, .int .u8 0, .int .u8 0, .int .u8 0, .int .u8 0, .int .u8 0, .int .u8 0, .int .u8 0, .int .u8 0] : Array Value) = ⟨.int .u8 1 :: List.replicate 31 (.int .u8 0)⟩ := rfl
  rw [e]
  cases i with
  | zero => rfl
  | succ i =>
    rw [← Array.getElem?_toList, List.getElem?_cons_succ, List.getElem?_replicate, if_pos (by omega), if_neg (by omega)]

set_option maxRecDepth 100000 in
theorem eq_one (w : World) : (Op.equalIn 10000 23 (.agg (arr 32 fun i => .int .u8 (byt (dig 1) i))) (.agg #[.int .u8 1, .int .u8 0, .int .u8 0, .int .u8 0, .int .u8 0, .int .u8 0, .int .u8 0, .int .u8 0, .int .u8 0, .int .u8 0, .int .u8 0, .int .u8 0, .int .u8 0, .int .u8 0, .int .u8 0, .int .u8 0, .int .u8 0, .int .u8 0, .int .u8 0, .int .u8 0, .int .u8 0, .int .u8 0, .int .u8 0, .int .u8 0, .int .u8 0, .int .u8 0, .int .u8 0, .int .u8 0, .int .u8 0, .int .u8 0, .int .u8 0, .int .u8 0])).run Try.prog w = .ok true w := by
  rw [eq_ints (e := 5) (n := 32) (k := .u8) (k' := .u8) Try.underlying23 (inf := _) rfl (by kernel_rfl) Try.underlying5 (fun _ => by kernel_rfl) _ _ (fun i => (byt (dig 1) i : Int)) (fun i => if i = 0 then 1 else 0)
    (fun i hi => arr_get _ _ _ hi) (fun i hi => one_get i hi) w]
  rw [decide_eq_true]
  intro i hi
  rw [byt_one i hi]
  split <;> rfl

end Go.Proofs.Ytgiemldmphbolaa

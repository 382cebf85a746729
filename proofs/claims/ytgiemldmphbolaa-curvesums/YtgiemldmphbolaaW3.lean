/- Arrays of whole numbers side by side: what '==' answers of them. -/
import Derived.WalkKit
import Derived.ChangeKeysEq
namespace Go.Proofs.Ytgiemldmphbolaa
open Go.RowKit

theorem run_items {P : Program} (e : TypeId) (k k' : IntKind) (hag : ∀ w, (isAgg e).run P w = .ok false w) (he : P.underlying e = some (.int k')) (X Y : Array Value) (x y : Nat → Int) (d : Nat) (w : World) :
    ∀ is : List Nat, (∀ i ∈ is, X[i]? = some (.int k (x i))) → (∀ i ∈ is, Y[i]? = some (.int k (y i))) →
      (Op.eqItems (d + 1) e 1 X Y is).run P w = .ok (decide (∀ i ∈ is, x i = y i)) w := by
  intro is
  induction is with
  | nil => intro _ _; simp [Op.eqItems]
  | cons i is ih =>
    intro hx hy
    have h1 := hx i (by simp); have h2 := hy i (by simp)
    have ih' := ih (fun j hj => hx j (by simp [hj])) (fun j hj => hy j (by simp [hj]))
    simp only [Op.eqItems, part, Sem.run_bind, hag, Result.andThen_ok, Nat.mul_one, h1, h2, Bool.false_eq_true, if_false, Sem.run_pure, run_equalIn_int w d e k k' _ _ he]
    by_cases hxy : x i = y i
    · simp only [hxy, beq_self_eq_true, Bool.not_true, Bool.false_eq_true, if_false, ih']
      simp [hxy]
    · have : (x i == y i) = false := by simp [hxy]
      simp only [this, Bool.not_false, if_true, Sem.run_pure]
      simp [hxy]

theorem eq_ints {P : Program} {t e n : Nat} {k k' : IntKind} {inf : TypeInfo} (hu : P.underlying t = some (.array n e)) (hi : P.info? e = some inf) (hc : P.cellsOf e = 1) (he : P.underlying e = some (.int k')) (hag : ∀ w, (isAgg e).run P w = .ok false w)
    (X Y : Array Value) (x y : Nat → Int) (hx : ∀ i, i < n → X[i]? = some (.int k (x i))) (hy : ∀ i, i < n → Y[i]? = some (.int k (y i))) (w : World) :
    (Op.equalIn 10000 t (.agg X) (.agg Y)).run P w = .ok (decide (∀ i, i < n → x i = y i)) w := by
  have h := run_equalIn_array w 9999 X Y hu hi
  rw [show (10000 : Nat) = 9999 + 1 from rfl, h, hc, run_items e k k' hag he X Y x y 9998 w (List.range n) (fun i hi => hx i (by simpa using hi)) (fun i hi => hy i (by simpa using hi))]
  congr 1
  simp
end Go.Proofs.Ytgiemldmphbolaa

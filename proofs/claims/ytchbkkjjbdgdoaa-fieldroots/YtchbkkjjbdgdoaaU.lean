/- The contract of anyRoot, as far as the power: the rest by slots and blocks. -/
import Derived.Test.YtchbkkjjbdgdoaaY
namespace Go.Proofs.Ytchbkkjjbdgdoaa
open Go.RowKit

theorem cs_dig {z : Nat → Nat} (hz : Ok z) {n : Nat} (e : nm z = n) : cs z = cs (dig n) := by
  have := el_dig hz e
  simpa [el, cs] using this

/-- What grows a power, by numbers. -/
theorem grow_d (t b : Nat) (ht : t < 1000) {x n : Nat} (hx : x < pp) (hn : n < pp) (t0 : TypeId) (w : World) (hrow : w.heap[b]? = some (.cells (ce x) t0 (0, 0))) :
    Calls Try.prog 52 #[.int .i64 t, el (dig n), .pointer (some ⟨b, 0, none⟩)] w fun e w' => e = .returned (el (dig (x ^ (2 ^ t) * n % pp))) ∧ Mod b w w' ∧ w'.heap[b]? = some (.cells (ce (x ^ (2 ^ t) * n % pp)) t0 (0, 0)) := by
  refine (grow_any t b ht _ _ (dig_ok hx).1 (dig_ok hn).1 t0 w hrow).mono ?_
  rintro e w' ⟨z, hz, ez, rfl, hm, hr⟩
  have ez := ez.out
  rw [(dig_ok hx).2, (dig_ok hn).2] at ez
  refine ⟨by rw [el_dig hz ez], hm, ?_⟩
  rw [cs_dig hz ez] at hr; exact hr

theorem ones_d {x : Nat} (hx : x < pp) : ∃ E : Nat, Hid (E = 1809251394333065553493296640760748560207343510400633813116524750123642650623) ∧ ∀ w,
    Calls Try.prog 47 #[el (dig x)] w fun e w' => ∃ b : Nat, e = .returned (.func (.func 52) #[] #[.pointer (some ⟨b, 0, none⟩)]) ∧ w.heap.size ≤ b ∧ Below w.heap.size w w' ∧ w'.heap[b]? = some (.cells (ce (x ^ E % pp)) 33 (0, 0)) := by
  obtain ⟨E, hE⟩ : ∃ E : Nat, Hid (E = 1809251394333065553493296640760748560207343510400633813116524750123642650623) := ⟨_, hide1 rfl⟩
  refine ⟨E, hE, fun w => ?_⟩
  refine (ones_any _ (dig_ok hx).1 w).mono ?_
  rintro e w' ⟨z, E', b, hz, hE', ez, rfl, hb, hw, hr⟩
  obtain rfl : E = E' := hE.out.trans hE'.out.symm
  have ez := ez.out
  rw [(dig_ok hx).2] at ez
  refine ⟨b, rfl, hb, hw, ?_⟩
  rw [cs_dig hz ez] at hr; exact hr

/-- A root of -1. -/
def iRt : Nat := 19681161376707505956807079304988542015446066515923890162744021073123829784752

theorem iroot_d (w : World) : Calls Try.prog 48 #[] w fun e w' => e = .returned (el (dig iRt)) ∧ Below w.heap.size w w' := by
  have h : el (dig iRt) = el (four 14190309331451158704 3405592160176694392 3120150775007532967 3135389899092516619) := by
    have h0 : dig iRt 0 = 14190309331451158704 := by decide +kernel
    have h1 : dig iRt 1 = 3405592160176694392 := by decide +kernel
    have h2 : dig iRt 2 = 3120150775007532967 := by decide +kernel
    have h3 : dig iRt 3 = 3135389899092516619 := by decide +kernel
    simp only [el, four, h0, h1, h2, h3]
  rw [h]
  go_enter Try.func48, Try.ntmps48
  go_wp2_with fail
  exact bodyPost_ret (v := el (four 14190309331451158704 3405592160176694392 3120150775007532967 3135389899092516619)) (by simp [results, Try.results48, go_sem, four]) rfl ⟨rfl, below1 _ _⟩
end Go.Proofs.Ytchbkkjjbdgdoaa

/- The contracts of package crc, above the register: the table is made, texts are put to it, sums are made. -/
import Derived.Test.YtmkiafjooidpnaaWalkA
namespace Go.Proofs.Ytmkiafjooidpnaa
open Go.RowKit

set_option maxHeartbeats 400000 in
theorem makeTable_any (w : World) :
    Calls Try.prog 18 #[] w fun e w' => e = .returned (.agg #[.int .u32 (stps 4 0 : Nat), .int .u32 (stps 4 1 : Nat), .int .u32 (stps 4 2 : Nat), .int .u32 (stps 4 3 : Nat), .int .u32 (stps 4 4 : Nat), .int .u32 (stps 4 5 : Nat), .int .u32 (stps 4 6 : Nat), .int .u32 (stps 4 7 : Nat), .int .u32 (stps 4 8 : Nat), .int .u32 (stps 4 9 : Nat), .int .u32 (stps 4 10 : Nat), .int .u32 (stps 4 11 : Nat), .int .u32 (stps 4 12 : Nat), .int .u32 (stps 4 13 : Nat), .int .u32 (stps 4 14 : Nat), .int .u32 (stps 4 15 : Nat)]) ∧ Below w.heap.size w w' := by
  go_enter Try.func18, Try.ntmps18
  go_wp2
  refine wp_loop_rounds 17 ?_
  iterate 16
    rw [rounds_succ]
    go_wp2_with fail
    refine (shift_any _ (by decide) _).mono ?_
    rintro e w' ⟨rfl, rfl⟩
    go_wp2_with fail
  rw [rounds_succ]
  go_wp2
  exact bodyPost_ret (v := .agg #[.int .u32 (stps 4 0 : Nat), .int .u32 (stps 4 1 : Nat), .int .u32 (stps 4 2 : Nat), .int .u32 (stps 4 3 : Nat), .int .u32 (stps 4 4 : Nat), .int .u32 (stps 4 5 : Nat), .int .u32 (stps 4 6 : Nat), .int .u32 (stps 4 7 : Nat), .int .u32 (stps 4 8 : Nat), .int .u32 (stps 4 9 : Nat), .int .u32 (stps 4 10 : Nat), .int .u32 (stps 4 11 : Nat), .int .u32 (stps 4 12 : Nat), .int .u32 (stps 4 13 : Nat), .int .u32 (stps 4 14 : Nat), .int .u32 (stps 4 15 : Nat)]) (by simp [results, Try.results18, go_sem]) rfl ⟨rfl, ((Below.refl _ _).alloc (Nat.le_refl _) _).alloc (by simp) _⟩

end Go.Proofs.Ytmkiafjooidpnaa

/- The fixed fact that every statement begins with: the chapter's example. -/
import Derived.Test.YtmkiafjooidpnaaWalkC
import Derived.Lib.SlBytesConst
namespace Go.Proofs.Ytmkiafjooidpnaa
open Go.RowKit

/-- A row that the call itself has made, in its last block. -/
theorem bs_new (w : World) (zs : List Int) (fr : Nat × Nat) (hz : ∀ z ∈ zs, 0 ≤ z ∧ z < 256) : Bs (w.alloc (.cells (zs.map (Value.int .u8)).toArray 5 fr)) (some ⟨w.heap.size, 0, none⟩) zs.length zs := by
  refine ⟨rfl, hz, fun _ => ⟨_, _, rfl, fun i hi => ?_⟩⟩
  rw [World.cell?_alloc_mark]
  simp [hi]

theorem parts_none (w : World) (a : Option Addr) : Parts w a 0 [] := ⟨rfl, fun h => absurd h (by omega)⟩

theorem parts_one {w : World} {b : Nat} {a1 : Option Addr} {l1 c1 : Nat} {z1 : List Int} (h1 : w.cell? ⟨b, 0, none⟩ = some (.slice a1 l1 c1)) (m1 : l1 ≤ maxLen) (k1 : Bs w a1 l1 z1) : Parts w (some ⟨b, 0, none⟩) 1 [z1] := by
  refine ⟨rfl, fun _ => ⟨_, _, rfl, fun i hi => ?_⟩⟩
  obtain rfl : i = 0 := by omega
  exact ⟨a1, l1, c1, h1, m1, k1⟩

theorem parts_two {w : World} {b : Nat} {a1 a2 : Option Addr} {l1 c1 l2 c2 : Nat} {z1 z2 : List Int} (h1 : w.cell? ⟨b, 0, none⟩ = some (.slice a1 l1 c1)) (m1 : l1 ≤ maxLen) (k1 : Bs w a1 l1 z1)
    (h2 : w.cell? ⟨b, 1, none⟩ = some (.slice a2 l2 c2)) (m2 : l2 ≤ maxLen) (k2 : Bs w a2 l2 z2) : Parts w (some ⟨b, 0, none⟩) 2 [z1, z2] := by
  refine ⟨rfl, fun _ => ⟨_, _, rfl, fun i hi => ?_⟩⟩
  rcases (show i = 0 ∨ i = 1 by omega) with rfl | rfl
  · exact ⟨a1, l1, c1, h1, m1, k1⟩
  · exact ⟨a2, l2, c2, h2, m2, k2⟩

theorem example_sum : crcSum [49, 50, 51, 52, 53, 54, 55, 56, 57] = 3421780262 := by decide +kernel

set_option maxHeartbeats 400000 in
theorem alive_any (w : World) : Calls Try.prog 8 #[] w fun e w' => e = .returned (.bool true) ∧ Below w.heap.size w w' := by
  have kc := fun (w : World) (C : Array Value) (n c : Nat) => Lib.run_convert_bytes_const (P := Try.prog) w 22 5 C n c Try.underlying22 Try.underlying5
  have kc2 : ∀ (w : World) (o : Obj) (C : Array Value) (n c : Nat), (convert 22 22 (.slice (some ⟨w.heap.size + 1, 0, none⟩) n c)).run Try.prog ((w.alloc o).alloc (.cells C 5)) = .ok (.slice (some ⟨w.heap.size + 1, 0, none⟩) n c) ((w.alloc o).alloc (.cells C 5 (C.size, C.size + 1))) := by
    intro w o C n c
    have := kc (w.alloc o) C n c
    simpa using this
  go_enter Try.func8, Try.ntmps8
  go_wp2_with fail
  have b1 : Bs (w.alloc (.cells #[.int .u8 49, .int .u8 50, .int .u8 51, .int .u8 52] 5 (4, 5))) (some ⟨w.heap.size, 0, none⟩) 4 [49, 50, 51, 52] := bs_new w [49, 50, 51, 52] (4, 5) (by decide)
  have b2 : Bs ((w.alloc (.cells #[.int .u8 49, .int .u8 50, .int .u8 51, .int .u8 52] 5 (4, 5))).alloc (.cells #[.int .u8 53, .int .u8 54, .int .u8 55, .int .u8 56, .int .u8 57] 5 (5, 6))) (some ⟨w.heap.size + 1, 0, none⟩) 5 [53, 54, 55, 56, 57] := by
    have := bs_new (w.alloc (.cells #[.int .u8 49, .int .u8 50, .int .u8 51, .int .u8 52] 5 (4, 5))) [53, 54, 55, 56, 57] (5, 6) (by decide)
    rwa [World.size_alloc] at this
  generalize (Obj.cells #[.int .u8 49, .int .u8 50, .int .u8 51, .int .u8 52] 5 (4, 5)) = o1 at *
  generalize (Obj.cells #[.int .u8 53, .int .u8 54, .int .u8 55, .int .u8 56, .int .u8 57] 5 (5, 6)) = o2 at *
  have hb : Below w.heap.size w (((w.alloc o1).alloc o2).alloc (.cells #[.slice (some ⟨w.heap.size, 0, none⟩) 4 4, .slice (some ⟨w.heap.size + 1, 0, none⟩) 5 5] 22)) := by go_grown
  refine (of_any _ 2 2 [[49, 50, 51, 52], [53, 54, 55, 56, 57]] _ (parts_two (a1 := some ⟨w.heap.size, 0, none⟩) (l1 := 4) (c1 := 4) (a2 := some ⟨w.heap.size + 1, 0, none⟩) (l2 := 5) (c2 := 5) ?_ (by decide) ?_ ?_ (by decide) ?_) (by decide)).mono ?_
  · simp [go_sem]
  · exact b1.later (((Below.refl _ _).alloc (Nat.le_refl _) _).alloc (by simp) _)
  · simp [go_sem]
  · exact b2.later ((Below.refl _ _).alloc (Nat.le_refl _) _)
  rintro e w2 ⟨rfl, hb2⟩
  have hx : crcSum [[49, 50, 51, 52], [53, 54, 55, 56, 57]].flatten = 3421780262 := example_sum
  rw [hx]
  go_wp2
  go_ret
  exact ⟨rfl, hb.trans (hb2.mono (by simp; omega))⟩
end Go.Proofs.Ytmkiafjooidpnaa

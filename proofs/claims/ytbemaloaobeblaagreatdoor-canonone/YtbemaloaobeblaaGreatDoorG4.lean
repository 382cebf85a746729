/- KC4, KE1, KE2, KE3, JF3, JF5, JF6, KE4, KE5, KE6, KS1, KPL, KS2, CS3, CS4, CS5: laid together. -/
import Derived.OrdersIn
import Derived.Maps.OwnIn
import Derived.Test.YtbemaloaobeblaaGreatDoorG3
import Derived.Test.YtbemaloaobeblaaGreatDoorG2
namespace Go.Proofs.YtbemaloaobeblaaGreatDoor
open Go.RowKit

theorem below_al {w : World} (o : Obj) : Below w.heap.size w (w.alloc o) := (Below.refl _ _).alloc (Nat.le_refl _) _
theorem new_at (w : World) (c : Array Value) (t : TypeId) : (w.alloc (.cells c t)).heap[w.heap.size]? = some (.cells c t (0, 0)) := by
  show (w.heap.push _)[w.heap.size]? = _
  rw [Array.getElem?_push, if_pos rfl]
set_option maxHeartbeats 4000000 in
set_option maxRecDepth 100000 in
theorem snd_sp {k i : Int} {s : List UInt8} {sa pa : Option Addr} {cl cp : List (List Value)} {sc pc : Nat} {w : World} {D : Int} (hsp0 : spB k i s cl.length cp.length = true) : Calls Tryz.prog 34 #[.agg #[.int .i64 k, .int .i64 i, .string (st s), .slice sa cl.length sc, .slice pa cp.length pc], .int .i64 D] w fun e w' => e = .returned (.bool false) ∧ Below w.heap.size w w' := by
  have hb0 := below_al (w := w) (.cells #[.int .i64 k, .int .i64 i, .string (st s), .slice sa cl.length sc, .slice pa cp.length pc] 28)
  have hbx := new_at w #[.int .i64 k, .int .i64 i, .string (st s), .slice sa cl.length sc, .slice pa cp.length pc] 28
  obtain ⟨w1, hw1⟩ : ∃ w1, w1 = w.alloc (.cells #[.int .i64 k, .int .i64 i, .string (st s), .slice sa cl.length sc, .slice pa cp.length pc] 28) := ⟨_, rfl⟩
  rw [← hw1] at hb0 hbx
  have hsp := spare_d (k := k) (i := i) (s := s) (sa := sa) (pa := pa) (nl := cl.length) (np := cp.length) (sc := sc) (pc := pc) (w := w1)
  rw [hsp0] at hsp
  replace hb0 := hide1 hb0
  replace hbx := hide1 hbx
  go_enter Tryz.func34, Tryz.ntmps34
  go_wp2_with fail
  rw [← hw1]
  refine hsp.mono ?_
  rintro e w2 ⟨rfl, b2⟩
  have hB := hide1 (hb0.out.trans (b2.mono hb0.out.size))
  have hbx2 := (b2.block _ (Array.getElem?_eq_some_iff.1 hbx.out).1).trans hbx.out
  have c0 : w2.cell? ⟨w.heap.size, 0, none⟩ = some (.int .i64 k) := by simp only [World.cell?, hbx2]; rfl
  have c1 : w2.cell? ⟨w.heap.size, 1, none⟩ = some (.int .i64 i) := by simp only [World.cell?, hbx2]; rfl
  have c2 : w2.cell? ⟨w.heap.size, 2, none⟩ = some (.string (st s)) := by simp only [World.cell?, hbx2]; rfl
  have c3 : w2.cell? ⟨w.heap.size, 3, none⟩ = some (.slice sa cl.length sc) := by simp only [World.cell?, hbx2]; rfl
  have c4 : w2.cell? ⟨w.heap.size, 4, none⟩ = some (.slice pa cp.length pc) := by simp only [World.cell?, hbx2]; rfl
  clear hsp b2 hw1 hb0 hbx
  go_wp2
  go_ret
  exact ⟨rfl, hB.out⟩
set_option maxHeartbeats 4000000 in
set_option maxRecDepth 100000 in
theorem snd_0 {i : Int} {s : List UInt8} {sa pa : Option Addr} {cl cp : List (List Value)} {sc pc : Nat} {w : World} {D : Int} (hsp0 : spB 0 i s cl.length cp.length = false) : Calls Tryz.prog 34 #[.agg #[.int .i64 0, .int .i64 i, .string (st s), .slice sa cl.length sc, .slice pa cp.length pc], .int .i64 D] w fun e w' => e = .returned (.bool true) ∧ Below w.heap.size w w' := by
  have hb0 := below_al (w := w) (.cells #[.int .i64 0, .int .i64 i, .string (st s), .slice sa cl.length sc, .slice pa cp.length pc] 28)
  have hbx := new_at w #[.int .i64 0, .int .i64 i, .string (st s), .slice sa cl.length sc, .slice pa cp.length pc] 28
  obtain ⟨w1, hw1⟩ : ∃ w1, w1 = w.alloc (.cells #[.int .i64 0, .int .i64 i, .string (st s), .slice sa cl.length sc, .slice pa cp.length pc] 28) := ⟨_, rfl⟩
  rw [← hw1] at hb0 hbx
  have hsp := spare_d (k := 0) (i := i) (s := s) (sa := sa) (pa := pa) (nl := cl.length) (np := cp.length) (sc := sc) (pc := pc) (w := w1)
  rw [hsp0] at hsp
  replace hb0 := hide1 hb0
  replace hbx := hide1 hbx
  go_enter Tryz.func34, Tryz.ntmps34
  go_wp2_with fail
  rw [← hw1]
  refine hsp.mono ?_
  rintro e w2 ⟨rfl, b2⟩
  have hB := hide1 (hb0.out.trans (b2.mono hb0.out.size))
  have hbx2 := (b2.block _ (Array.getElem?_eq_some_iff.1 hbx.out).1).trans hbx.out
  have c0 : w2.cell? ⟨w.heap.size, 0, none⟩ = some (.int .i64 (0)) := by simp only [World.cell?, hbx2]; rfl
  have c1 : w2.cell? ⟨w.heap.size, 1, none⟩ = some (.int .i64 i) := by simp only [World.cell?, hbx2]; rfl
  have c2 : w2.cell? ⟨w.heap.size, 2, none⟩ = some (.string (st s)) := by simp only [World.cell?, hbx2]; rfl
  have c3 : w2.cell? ⟨w.heap.size, 3, none⟩ = some (.slice sa cl.length sc) := by simp only [World.cell?, hbx2]; rfl
  have c4 : w2.cell? ⟨w.heap.size, 4, none⟩ = some (.slice pa cp.length pc) := by simp only [World.cell?, hbx2]; rfl
  clear hsp b2 hw1 hb0 hbx
  go_wp2
  go_ret
  exact ⟨rfl, hB.out⟩
set_option maxHeartbeats 4000000 in
set_option maxRecDepth 100000 in
theorem snd_10  {s : List UInt8} {sa pa : Option Addr} {cl cp : List (List Value)} {sc pc : Nat} {w : World} {D : Int} (hsp0 : spB 1 0 s cl.length cp.length = false) : Calls Tryz.prog 34 #[.agg #[.int .i64 1, .int .i64 0, .string (st s), .slice sa cl.length sc, .slice pa cp.length pc], .int .i64 D] w fun e w' => e = .returned (.bool true) ∧ Below w.heap.size w w' := by
  have hb0 := below_al (w := w) (.cells #[.int .i64 1, .int .i64 0, .string (st s), .slice sa cl.length sc, .slice pa cp.length pc] 28)
  have hbx := new_at w #[.int .i64 1, .int .i64 0, .string (st s), .slice sa cl.length sc, .slice pa cp.length pc] 28
  obtain ⟨w1, hw1⟩ : ∃ w1, w1 = w.alloc (.cells #[.int .i64 1, .int .i64 0, .string (st s), .slice sa cl.length sc, .slice pa cp.length pc] 28) := ⟨_, rfl⟩
  rw [← hw1] at hb0 hbx
  have hsp := spare_d (k := 1) (i := 0) (s := s) (sa := sa) (pa := pa) (nl := cl.length) (np := cp.length) (sc := sc) (pc := pc) (w := w1)
  rw [hsp0] at hsp
  replace hb0 := hide1 hb0
  replace hbx := hide1 hbx
  go_enter Tryz.func34, Tryz.ntmps34
  go_wp2_with fail
  rw [← hw1]
  refine hsp.mono ?_
  rintro e w2 ⟨rfl, b2⟩
  have hB := hide1 (hb0.out.trans (b2.mono hb0.out.size))
  have hbx2 := (b2.block _ (Array.getElem?_eq_some_iff.1 hbx.out).1).trans hbx.out
  have c0 : w2.cell? ⟨w.heap.size, 0, none⟩ = some (.int .i64 (1)) := by simp only [World.cell?, hbx2]; rfl
  have c1 : w2.cell? ⟨w.heap.size, 1, none⟩ = some (.int .i64 (0)) := by simp only [World.cell?, hbx2]; rfl
  have c2 : w2.cell? ⟨w.heap.size, 2, none⟩ = some (.string (st s)) := by simp only [World.cell?, hbx2]; rfl
  have c3 : w2.cell? ⟨w.heap.size, 3, none⟩ = some (.slice sa cl.length sc) := by simp only [World.cell?, hbx2]; rfl
  have c4 : w2.cell? ⟨w.heap.size, 4, none⟩ = some (.slice pa cp.length pc) := by simp only [World.cell?, hbx2]; rfl
  clear hsp b2 hw1 hb0 hbx
  go_wp2
  go_ret
  exact ⟨rfl, hB.out⟩
set_option maxHeartbeats 4000000 in
set_option maxRecDepth 100000 in
theorem snd_11  {s : List UInt8} {sa pa : Option Addr} {cl cp : List (List Value)} {sc pc : Nat} {w : World} {D : Int} (hsp0 : spB 1 1 s cl.length cp.length = false) : Calls Tryz.prog 34 #[.agg #[.int .i64 1, .int .i64 1, .string (st s), .slice sa cl.length sc, .slice pa cp.length pc], .int .i64 D] w fun e w' => e = .returned (.bool true) ∧ Below w.heap.size w w' := by
  have hb0 := below_al (w := w) (.cells #[.int .i64 1, .int .i64 1, .string (st s), .slice sa cl.length sc, .slice pa cp.length pc] 28)
  have hbx := new_at w #[.int .i64 1, .int .i64 1, .string (st s), .slice sa cl.length sc, .slice pa cp.length pc] 28
  obtain ⟨w1, hw1⟩ : ∃ w1, w1 = w.alloc (.cells #[.int .i64 1, .int .i64 1, .string (st s), .slice sa cl.length sc, .slice pa cp.length pc] 28) := ⟨_, rfl⟩
  rw [← hw1] at hb0 hbx
  have hsp := spare_d (k := 1) (i := 1) (s := s) (sa := sa) (pa := pa) (nl := cl.length) (np := cp.length) (sc := sc) (pc := pc) (w := w1)
  rw [hsp0] at hsp
  replace hb0 := hide1 hb0
  replace hbx := hide1 hbx
  go_enter Tryz.func34, Tryz.ntmps34
  go_wp2_with fail
  rw [← hw1]
  refine hsp.mono ?_
  rintro e w2 ⟨rfl, b2⟩
  have hB := hide1 (hb0.out.trans (b2.mono hb0.out.size))
  have hbx2 := (b2.block _ (Array.getElem?_eq_some_iff.1 hbx.out).1).trans hbx.out
  have c0 : w2.cell? ⟨w.heap.size, 0, none⟩ = some (.int .i64 (1)) := by simp only [World.cell?, hbx2]; rfl
  have c1 : w2.cell? ⟨w.heap.size, 1, none⟩ = some (.int .i64 (1)) := by simp only [World.cell?, hbx2]; rfl
  have c2 : w2.cell? ⟨w.heap.size, 2, none⟩ = some (.string (st s)) := by simp only [World.cell?, hbx2]; rfl
  have c3 : w2.cell? ⟨w.heap.size, 3, none⟩ = some (.slice sa cl.length sc) := by simp only [World.cell?, hbx2]; rfl
  have c4 : w2.cell? ⟨w.heap.size, 4, none⟩ = some (.slice pa cp.length pc) := by simp only [World.cell?, hbx2]; rfl
  clear hsp b2 hw1 hb0 hbx
  go_wp2
  go_ret
  exact ⟨rfl, hB.out⟩
set_option maxHeartbeats 4000000 in
set_option maxRecDepth 100000 in
theorem snd_1o {i : Int} {s : List UInt8} {sa pa : Option Addr} {cl cp : List (List Value)} {sc pc : Nat} {w : World} {D : Int} (hsp0 : spB 1 i s cl.length cp.length = false) (i0 : i ≠ 0) (i1 : i ≠ 1) : Calls Tryz.prog 34 #[.agg #[.int .i64 1, .int .i64 i, .string (st s), .slice sa cl.length sc, .slice pa cp.length pc], .int .i64 D] w fun e w' => e = .returned (.bool false) ∧ Below w.heap.size w w' := by
  have hb0 := below_al (w := w) (.cells #[.int .i64 1, .int .i64 i, .string (st s), .slice sa cl.length sc, .slice pa cp.length pc] 28)
  have hbx := new_at w #[.int .i64 1, .int .i64 i, .string (st s), .slice sa cl.length sc, .slice pa cp.length pc] 28
  obtain ⟨w1, hw1⟩ : ∃ w1, w1 = w.alloc (.cells #[.int .i64 1, .int .i64 i, .string (st s), .slice sa cl.length sc, .slice pa cp.length pc] 28) := ⟨_, rfl⟩
  rw [← hw1] at hb0 hbx
  have hsp := spare_d (k := 1) (i := i) (s := s) (sa := sa) (pa := pa) (nl := cl.length) (np := cp.length) (sc := sc) (pc := pc) (w := w1)
  rw [hsp0] at hsp
  replace hb0 := hide1 hb0
  replace hbx := hide1 hbx
  have d0 : (i == 0) = false := by simpa using i0
  have d1 : (i == 1) = false := by simpa using i1
  go_enter Tryz.func34, Tryz.ntmps34
  go_wp2_with fail
  rw [← hw1]
  refine hsp.mono ?_
  rintro e w2 ⟨rfl, b2⟩
  have hB := hide1 (hb0.out.trans (b2.mono hb0.out.size))
  have hbx2 := (b2.block _ (Array.getElem?_eq_some_iff.1 hbx.out).1).trans hbx.out
  have c0 : w2.cell? ⟨w.heap.size, 0, none⟩ = some (.int .i64 (1)) := by simp only [World.cell?, hbx2]; rfl
  have c1 : w2.cell? ⟨w.heap.size, 1, none⟩ = some (.int .i64 i) := by simp only [World.cell?, hbx2]; rfl
  have c2 : w2.cell? ⟨w.heap.size, 2, none⟩ = some (.string (st s)) := by simp only [World.cell?, hbx2]; rfl
  have c3 : w2.cell? ⟨w.heap.size, 3, none⟩ = some (.slice sa cl.length sc) := by simp only [World.cell?, hbx2]; rfl
  have c4 : w2.cell? ⟨w.heap.size, 4, none⟩ = some (.slice pa cp.length pc) := by simp only [World.cell?, hbx2]; rfl
  clear hsp b2 hw1 hb0 hbx
  go_wp2
  go_ret
  exact ⟨rfl, hB.out⟩
set_option maxHeartbeats 4000000 in
set_option maxRecDepth 100000 in
theorem snd_2 {i : Int} {s : List UInt8} {sa pa : Option Addr} {cl cp : List (List Value)} {sc pc : Nat} {w : World} {D : Int} (hsp0 : spB 2 i s cl.length cp.length = false) : Calls Tryz.prog 34 #[.agg #[.int .i64 2, .int .i64 i, .string (st s), .slice sa cl.length sc, .slice pa cp.length pc], .int .i64 D] w fun e w' => e = .returned (.bool (inR i)) ∧ Below w.heap.size w w' := by
  have hb0 := below_al (w := w) (.cells #[.int .i64 2, .int .i64 i, .string (st s), .slice sa cl.length sc, .slice pa cp.length pc] 28)
  have hbx := new_at w #[.int .i64 2, .int .i64 i, .string (st s), .slice sa cl.length sc, .slice pa cp.length pc] 28
  obtain ⟨w1, hw1⟩ : ∃ w1, w1 = w.alloc (.cells #[.int .i64 2, .int .i64 i, .string (st s), .slice sa cl.length sc, .slice pa cp.length pc] 28) := ⟨_, rfl⟩
  rw [← hw1] at hb0 hbx
  have hsp := spare_d (k := 2) (i := i) (s := s) (sa := sa) (pa := pa) (nl := cl.length) (np := cp.length) (sc := sc) (pc := pc) (w := w1)
  rw [hsp0] at hsp
  replace hb0 := hide1 hb0
  replace hbx := hide1 hbx
  obtain ⟨B, hBe⟩ : ∃ B, Hid (B = inR i) := ⟨_, hide1 rfl⟩
  rw [← hBe.out]
  go_enter Tryz.func34, Tryz.ntmps34
  go_wp2_with fail
  rw [← hw1]
  refine hsp.mono ?_
  rintro e w2 ⟨rfl, b2⟩
  have hB := hide1 (hb0.out.trans (b2.mono hb0.out.size))
  have hbx2 := (b2.block _ (Array.getElem?_eq_some_iff.1 hbx.out).1).trans hbx.out
  have c0 : w2.cell? ⟨w.heap.size, 0, none⟩ = some (.int .i64 (2)) := by simp only [World.cell?, hbx2]; rfl
  have c1 : w2.cell? ⟨w.heap.size, 1, none⟩ = some (.int .i64 i) := by simp only [World.cell?, hbx2]; rfl
  have c2 : w2.cell? ⟨w.heap.size, 2, none⟩ = some (.string (st s)) := by simp only [World.cell?, hbx2]; rfl
  have c3 : w2.cell? ⟨w.heap.size, 3, none⟩ = some (.slice sa cl.length sc) := by simp only [World.cell?, hbx2]; rfl
  have c4 : w2.cell? ⟨w.heap.size, 4, none⟩ = some (.slice pa cp.length pc) := by simp only [World.cell?, hbx2]; rfl
  have hcc := rng_d (n := i) (w := w2)
  rw [← hBe.out] at hcc
  clear hsp b2 hw1 hb0 hbx
  go_wp2_with fail
  refine hcc.mono ?_
  rintro e w3 ⟨rfl, rfl⟩
  clear hcc
  go_wp2
  go_ret
  exact ⟨rfl, hB.out⟩
set_option maxHeartbeats 4000000 in
set_option maxRecDepth 100000 in
theorem snd_3 {i : Int} {s : List UInt8} {sa pa : Option Addr} {cl cp : List (List Value)} {sc pc : Nat} {w : World} {D : Int} (hsp0 : spB 3 i s cl.length cp.length = false) (hsz : s.length ≤ 9223372036854775807) (hT : Ev w) (h8 : 8 ≤ w.heap.size) : Calls Tryz.prog 34 #[.agg #[.int .i64 3, .int .i64 i, .string (st s), .slice sa cl.length sc, .slice pa cp.length pc], .int .i64 D] w fun e w' => e = .returned (.bool (Lib.validD s)) ∧ Below w.heap.size w w' := by
  have hb0 := below_al (w := w) (.cells #[.int .i64 3, .int .i64 i, .string (st s), .slice sa cl.length sc, .slice pa cp.length pc] 28)
  have hbx := new_at w #[.int .i64 3, .int .i64 i, .string (st s), .slice sa cl.length sc, .slice pa cp.length pc] 28
  obtain ⟨w1, hw1⟩ : ∃ w1, w1 = w.alloc (.cells #[.int .i64 3, .int .i64 i, .string (st s), .slice sa cl.length sc, .slice pa cp.length pc] 28) := ⟨_, rfl⟩
  rw [← hw1] at hb0 hbx
  have hsp := spare_d (k := 3) (i := i) (s := s) (sa := sa) (pa := pa) (nl := cl.length) (np := cp.length) (sc := sc) (pc := pc) (w := w1)
  rw [hsp0] at hsp
  replace hb0 := hide1 hb0
  replace hbx := hide1 hbx
  obtain ⟨B, hBe⟩ : ∃ B, Hid (B = Lib.validD s) := ⟨_, hide1 rfl⟩
  rw [← hBe.out]
  go_enter Tryz.func34, Tryz.ntmps34
  go_wp2_with fail
  rw [← hw1]
  refine hsp.mono ?_
  rintro e w2 ⟨rfl, b2⟩
  have hB := hide1 (hb0.out.trans (b2.mono hb0.out.size))
  have hbx2 := (b2.block _ (Array.getElem?_eq_some_iff.1 hbx.out).1).trans hbx.out
  have c0 : w2.cell? ⟨w.heap.size, 0, none⟩ = some (.int .i64 (3)) := by simp only [World.cell?, hbx2]; rfl
  have c1 : w2.cell? ⟨w.heap.size, 1, none⟩ = some (.int .i64 i) := by simp only [World.cell?, hbx2]; rfl
  have c2 : w2.cell? ⟨w.heap.size, 2, none⟩ = some (.string (st s)) := by simp only [World.cell?, hbx2]; rfl
  have c3 : w2.cell? ⟨w.heap.size, 3, none⟩ = some (.slice sa cl.length sc) := by simp only [World.cell?, hbx2]; rfl
  have c4 : w2.cell? ⟨w.heap.size, 4, none⟩ = some (.slice pa cp.length pc) := by simp only [World.cell?, hbx2]; rfl
  have hcc := utf8_ValidString (st s) w2 (by rw [st_size]; exact hsz) (hT.below hB.out (by omega)).tb
  rw [st_data, ← hBe.out] at hcc
  clear hsp b2 hw1 hb0 hbx
  go_wp2_with fail
  refine hcc.mono ?_
  rintro e w3 ⟨rfl, b3⟩
  have hB3 := hide1 (hB.out.trans (b3.mono hB.out.size))
  clear hcc b3 hB
  go_wp2
  go_ret
  exact ⟨rfl, hB3.out⟩
set_option maxHeartbeats 4000000 in
set_option maxRecDepth 100000 in
theorem snd_4z {i : Int} {s : List UInt8} {sa pa : Option Addr} {cl cp : List (List Value)} {sc pc : Nat} {w : World} {D : Int} (hsp0 : spB 4 i s cl.length cp.length = false) (hD : D = 8) : Calls Tryz.prog 34 #[.agg #[.int .i64 4, .int .i64 i, .string (st s), .slice sa cl.length sc, .slice pa cp.length pc], .int .i64 D] w fun e w' => e = .returned (.bool false) ∧ Below w.heap.size w w' := by
  have hb0 := below_al (w := w) (.cells #[.int .i64 4, .int .i64 i, .string (st s), .slice sa cl.length sc, .slice pa cp.length pc] 28)
  have hbx := new_at w #[.int .i64 4, .int .i64 i, .string (st s), .slice sa cl.length sc, .slice pa cp.length pc] 28
  obtain ⟨w1, hw1⟩ : ∃ w1, w1 = w.alloc (.cells #[.int .i64 4, .int .i64 i, .string (st s), .slice sa cl.length sc, .slice pa cp.length pc] 28) := ⟨_, rfl⟩
  rw [← hw1] at hb0 hbx
  have hsp := spare_d (k := 4) (i := i) (s := s) (sa := sa) (pa := pa) (nl := cl.length) (np := cp.length) (sc := sc) (pc := pc) (w := w1)
  rw [hsp0] at hsp
  replace hb0 := hide1 hb0
  replace hbx := hide1 hbx
  subst hD
  go_enter Tryz.func34, Tryz.ntmps34
  go_wp2_with fail
  rw [← hw1]
  refine hsp.mono ?_
  rintro e w2 ⟨rfl, b2⟩
  have hB := hide1 (hb0.out.trans (b2.mono hb0.out.size))
  have hbx2 := (b2.block _ (Array.getElem?_eq_some_iff.1 hbx.out).1).trans hbx.out
  have c0 : w2.cell? ⟨w.heap.size, 0, none⟩ = some (.int .i64 (4)) := by simp only [World.cell?, hbx2]; rfl
  have c1 : w2.cell? ⟨w.heap.size, 1, none⟩ = some (.int .i64 i) := by simp only [World.cell?, hbx2]; rfl
  have c2 : w2.cell? ⟨w.heap.size, 2, none⟩ = some (.string (st s)) := by simp only [World.cell?, hbx2]; rfl
  have c3 : w2.cell? ⟨w.heap.size, 3, none⟩ = some (.slice sa cl.length sc) := by simp only [World.cell?, hbx2]; rfl
  have c4 : w2.cell? ⟨w.heap.size, 4, none⟩ = some (.slice pa cp.length pc) := by simp only [World.cell?, hbx2]; rfl
  clear hsp b2 hw1 hb0 hbx
  go_wp2
  go_ret
  exact ⟨rfl, hB.out⟩
set_option maxHeartbeats 4000000 in
set_option maxRecDepth 100000 in
theorem snd_4 {i : Int} {B : Bool} {s : List UInt8} {sa pa : Option Addr} {cl cp : List (List Value)} {sc pc : Nat} {w : World} {D : Int} (hsp0 : spB 4 i s cl.length cp.length = false) (hD : D < 8) (hD0 : 0 ≤ D) (hc : ∀ w2, Below w.heap.size w w2 → Calls Tryz.prog 56 #[.slice sa cl.length sc, .int .i64 (D + 1)] w2 fun e w3 => e = .returned (.bool B) ∧ Below w2.heap.size w2 w3) : Calls Tryz.prog 34 #[.agg #[.int .i64 4, .int .i64 i, .string (st s), .slice sa cl.length sc, .slice pa cp.length pc], .int .i64 D] w fun e w' => e = .returned (.bool B) ∧ Below w.heap.size w w' := by
  have hb0 := below_al (w := w) (.cells #[.int .i64 4, .int .i64 i, .string (st s), .slice sa cl.length sc, .slice pa cp.length pc] 28)
  have hbx := new_at w #[.int .i64 4, .int .i64 i, .string (st s), .slice sa cl.length sc, .slice pa cp.length pc] 28
  obtain ⟨w1, hw1⟩ : ∃ w1, w1 = w.alloc (.cells #[.int .i64 4, .int .i64 i, .string (st s), .slice sa cl.length sc, .slice pa cp.length pc] 28) := ⟨_, rfl⟩
  rw [← hw1] at hb0 hbx
  have hsp := spare_d (k := 4) (i := i) (s := s) (sa := sa) (pa := pa) (nl := cl.length) (np := cp.length) (sc := sc) (pc := pc) (w := w1)
  rw [hsp0] at hsp
  replace hb0 := hide1 hb0
  replace hbx := hide1 hbx
  replace hc := hide1 hc
  go_enter Tryz.func34, Tryz.ntmps34
  go_wp2_with fail
  rw [← hw1]
  refine hsp.mono ?_
  rintro e w2 ⟨rfl, b2⟩
  have hB := hide1 (hb0.out.trans (b2.mono hb0.out.size))
  have hbx2 := (b2.block _ (Array.getElem?_eq_some_iff.1 hbx.out).1).trans hbx.out
  have c0 : w2.cell? ⟨w.heap.size, 0, none⟩ = some (.int .i64 (4)) := by simp only [World.cell?, hbx2]; rfl
  have c1 : w2.cell? ⟨w.heap.size, 1, none⟩ = some (.int .i64 i) := by simp only [World.cell?, hbx2]; rfl
  have c2 : w2.cell? ⟨w.heap.size, 2, none⟩ = some (.string (st s)) := by simp only [World.cell?, hbx2]; rfl
  have c3 : w2.cell? ⟨w.heap.size, 3, none⟩ = some (.slice sa cl.length sc) := by simp only [World.cell?, hbx2]; rfl
  have c4 : w2.cell? ⟨w.heap.size, 4, none⟩ = some (.slice pa cp.length pc) := by simp only [World.cell?, hbx2]; rfl
  have hcc := hc.out w2 hB.out
  clear hsp b2 hw1 hb0 hbx
  go_wp2_with fail
  refine hcc.mono ?_
  rintro e w3 ⟨rfl, b3⟩
  have hB3 := hide1 (hB.out.trans (b3.mono hB.out.size))
  clear hcc b3 hB
  go_wp2
  go_ret
  exact ⟨rfl, hB3.out⟩
set_option maxHeartbeats 4000000 in
set_option maxRecDepth 100000 in
theorem snd_5z {i : Int} {s : List UInt8} {sa pa : Option Addr} {cl cp : List (List Value)} {sc pc : Nat} {w : World} {D : Int} (hsp0 : spB 5 i s cl.length cp.length = false) (hD : D = 8) : Calls Tryz.prog 34 #[.agg #[.int .i64 5, .int .i64 i, .string (st s), .slice sa cl.length sc, .slice pa cp.length pc], .int .i64 D] w fun e w' => e = .returned (.bool false) ∧ Below w.heap.size w w' := by
  have hb0 := below_al (w := w) (.cells #[.int .i64 5, .int .i64 i, .string (st s), .slice sa cl.length sc, .slice pa cp.length pc] 28)
  have hbx := new_at w #[.int .i64 5, .int .i64 i, .string (st s), .slice sa cl.length sc, .slice pa cp.length pc] 28
  obtain ⟨w1, hw1⟩ : ∃ w1, w1 = w.alloc (.cells #[.int .i64 5, .int .i64 i, .string (st s), .slice sa cl.length sc, .slice pa cp.length pc] 28) := ⟨_, rfl⟩
  rw [← hw1] at hb0 hbx
  have hsp := spare_d (k := 5) (i := i) (s := s) (sa := sa) (pa := pa) (nl := cl.length) (np := cp.length) (sc := sc) (pc := pc) (w := w1)
  rw [hsp0] at hsp
  replace hb0 := hide1 hb0
  replace hbx := hide1 hbx
  subst hD
  go_enter Tryz.func34, Tryz.ntmps34
  go_wp2_with fail
  rw [← hw1]
  refine hsp.mono ?_
  rintro e w2 ⟨rfl, b2⟩
  have hB := hide1 (hb0.out.trans (b2.mono hb0.out.size))
  have hbx2 := (b2.block _ (Array.getElem?_eq_some_iff.1 hbx.out).1).trans hbx.out
  have c0 : w2.cell? ⟨w.heap.size, 0, none⟩ = some (.int .i64 (5)) := by simp only [World.cell?, hbx2]; rfl
  have c1 : w2.cell? ⟨w.heap.size, 1, none⟩ = some (.int .i64 i) := by simp only [World.cell?, hbx2]; rfl
  have c2 : w2.cell? ⟨w.heap.size, 2, none⟩ = some (.string (st s)) := by simp only [World.cell?, hbx2]; rfl
  have c3 : w2.cell? ⟨w.heap.size, 3, none⟩ = some (.slice sa cl.length sc) := by simp only [World.cell?, hbx2]; rfl
  have c4 : w2.cell? ⟨w.heap.size, 4, none⟩ = some (.slice pa cp.length pc) := by simp only [World.cell?, hbx2]; rfl
  clear hsp b2 hw1 hb0 hbx
  go_wp2
  go_ret
  exact ⟨rfl, hB.out⟩
set_option maxHeartbeats 4000000 in
set_option maxRecDepth 100000 in
theorem snd_5 {i : Int} {B : Bool} {s : List UInt8} {sa pa : Option Addr} {cl cp : List (List Value)} {sc pc : Nat} {w : World} {D : Int} (hsp0 : spB 5 i s cl.length cp.length = false) (hD : D < 8) (hD0 : 0 ≤ D) (hc : ∀ w2, Below w.heap.size w w2 → Calls Tryz.prog 57 #[.agg #[.int .i64 5, .int .i64 i, .string (st s), .slice sa cl.length sc, .slice pa cp.length pc], .int .i64 (D + 1)] w2 fun e w3 => e = .returned (.bool B) ∧ Below w2.heap.size w2 w3) : Calls Tryz.prog 34 #[.agg #[.int .i64 5, .int .i64 i, .string (st s), .slice sa cl.length sc, .slice pa cp.length pc], .int .i64 D] w fun e w' => e = .returned (.bool B) ∧ Below w.heap.size w w' := by
  have hb0 := below_al (w := w) (.cells #[.int .i64 5, .int .i64 i, .string (st s), .slice sa cl.length sc, .slice pa cp.length pc] 28)
  have hbx := new_at w #[.int .i64 5, .int .i64 i, .string (st s), .slice sa cl.length sc, .slice pa cp.length pc] 28
  obtain ⟨w1, hw1⟩ : ∃ w1, w1 = w.alloc (.cells #[.int .i64 5, .int .i64 i, .string (st s), .slice sa cl.length sc, .slice pa cp.length pc] 28) := ⟨_, rfl⟩
  rw [← hw1] at hb0 hbx
  have hsp := spare_d (k := 5) (i := i) (s := s) (sa := sa) (pa := pa) (nl := cl.length) (np := cp.length) (sc := sc) (pc := pc) (w := w1)
  rw [hsp0] at hsp
  replace hb0 := hide1 hb0
  replace hbx := hide1 hbx
  replace hc := hide1 hc
  go_enter Tryz.func34, Tryz.ntmps34
  go_wp2_with fail
  rw [← hw1]
  refine hsp.mono ?_
  rintro e w2 ⟨rfl, b2⟩
  have hB := hide1 (hb0.out.trans (b2.mono hb0.out.size))
  have hbx2 := (b2.block _ (Array.getElem?_eq_some_iff.1 hbx.out).1).trans hbx.out
  have c0 : w2.cell? ⟨w.heap.size, 0, none⟩ = some (.int .i64 (5)) := by simp only [World.cell?, hbx2]; rfl
  have c1 : w2.cell? ⟨w.heap.size, 1, none⟩ = some (.int .i64 i) := by simp only [World.cell?, hbx2]; rfl
  have c2 : w2.cell? ⟨w.heap.size, 2, none⟩ = some (.string (st s)) := by simp only [World.cell?, hbx2]; rfl
  have c3 : w2.cell? ⟨w.heap.size, 3, none⟩ = some (.slice sa cl.length sc) := by simp only [World.cell?, hbx2]; rfl
  have c4 : w2.cell? ⟨w.heap.size, 4, none⟩ = some (.slice pa cp.length pc) := by simp only [World.cell?, hbx2]; rfl
  have hcc := hc.out w2 hB.out
  clear hsp b2 hw1 hb0 hbx
  go_wp2_with fail
  refine hcc.mono ?_
  rintro e w3 ⟨rfl, b3⟩
  have hB3 := hide1 (hB.out.trans (b3.mono hB.out.size))
  clear hcc b3 hB
  go_wp2
  go_ret
  exact ⟨rfl, hB3.out⟩
set_option maxHeartbeats 4000000 in
set_option maxRecDepth 100000 in
theorem snd_o {k i : Int} {s : List UInt8} {sa pa : Option Addr} {cl cp : List (List Value)} {sc pc : Nat} {w : World} {D : Int} (hsp0 : spB k i s cl.length cp.length = false) (k0 : k ≠ 0) (k1 : k ≠ 1) (k2 : k ≠ 2) (k3 : k ≠ 3) (k4 : k ≠ 4) (k5 : k ≠ 5) : Calls Tryz.prog 34 #[.agg #[.int .i64 k, .int .i64 i, .string (st s), .slice sa cl.length sc, .slice pa cp.length pc], .int .i64 D] w fun e w' => e = .returned (.bool false) ∧ Below w.heap.size w w' := by
  have hb0 := below_al (w := w) (.cells #[.int .i64 k, .int .i64 i, .string (st s), .slice sa cl.length sc, .slice pa cp.length pc] 28)
  have hbx := new_at w #[.int .i64 k, .int .i64 i, .string (st s), .slice sa cl.length sc, .slice pa cp.length pc] 28
  obtain ⟨w1, hw1⟩ : ∃ w1, w1 = w.alloc (.cells #[.int .i64 k, .int .i64 i, .string (st s), .slice sa cl.length sc, .slice pa cp.length pc] 28) := ⟨_, rfl⟩
  rw [← hw1] at hb0 hbx
  have hsp := spare_d (k := k) (i := i) (s := s) (sa := sa) (pa := pa) (nl := cl.length) (np := cp.length) (sc := sc) (pc := pc) (w := w1)
  rw [hsp0] at hsp
  replace hb0 := hide1 hb0
  replace hbx := hide1 hbx
  have d0 : (k == 0) = false := by simpa using k0
  have d1 : (k == 1) = false := by simpa using k1
  have d2 : (k == 2) = false := by simpa using k2
  have d3 : (k == 3) = false := by simpa using k3
  have d4 : (k == 4) = false := by simpa using k4
  have d5 : (k == 5) = false := by simpa using k5
  go_enter Tryz.func34, Tryz.ntmps34
  go_wp2_with fail
  rw [← hw1]
  refine hsp.mono ?_
  rintro e w2 ⟨rfl, b2⟩
  have hB := hide1 (hb0.out.trans (b2.mono hb0.out.size))
  have hbx2 := (b2.block _ (Array.getElem?_eq_some_iff.1 hbx.out).1).trans hbx.out
  have c0 : w2.cell? ⟨w.heap.size, 0, none⟩ = some (.int .i64 k) := by simp only [World.cell?, hbx2]; rfl
  have c1 : w2.cell? ⟨w.heap.size, 1, none⟩ = some (.int .i64 i) := by simp only [World.cell?, hbx2]; rfl
  have c2 : w2.cell? ⟨w.heap.size, 2, none⟩ = some (.string (st s)) := by simp only [World.cell?, hbx2]; rfl
  have c3 : w2.cell? ⟨w.heap.size, 3, none⟩ = some (.slice sa cl.length sc) := by simp only [World.cell?, hbx2]; rfl
  have c4 : w2.cell? ⟨w.heap.size, 4, none⟩ = some (.slice pa cp.length pc) := by simp only [World.cell?, hbx2]; rfl
  clear hsp b2 hw1 hb0 hbx
  go_wp2
  go_ret
  exact ⟨rfl, hB.out⟩
theorem sound_s {n : Nat} (hn : n ≤ 8) (ih : ∀ m, n = m + 1 → Sok m) : Sok n := by
  intro F w t c h hh hs hv hT h8
  cases h with
  | zero => exact hh.elim
  | succ h =>
  cases hv with
  | @mk k i s l p sl sp cl cp r1 r2 e1 e2 hl hp1 hp2 =>
    obtain ⟨b1, b2, hh1, hh2⟩ := hh
    obtain ⟨z0, z1, z2⟩ := hs
    obtain ⟨sa, sc, rfl⟩ := r1.slc
    obtain ⟨pa, pc, rfl⟩ := r2.slc
    unfold gd
    rw [← e1, ← e2]
    cases hsp : spB k i s cl.length cp.length with
    | true => exact snd_sp hsp
    | false =>
      simp only [Bool.not_false, Bool.true_and]
      by_cases k0 : k = 0
      · subst k0
        rw [if_pos rfl]
        exact snd_0 hsp
      rw [if_neg k0]
      by_cases k1 : k = 1
      · subst k1
        rw [if_pos rfl]
        by_cases i0 : i = 0
        · subst i0
          exact snd_10 hsp
        · by_cases i1 : i = 1
          · subst i1
            exact snd_11 hsp
          · rw [decide_eq_false (by omega)]
            exact snd_1o hsp i0 i1
      rw [if_neg k1]
      by_cases k2 : k = 2
      · subst k2
        rw [if_pos rfl]
        exact snd_2 hsp
      rw [if_neg k2]
      by_cases k3 : k = 3
      · subst k3
        rw [if_pos rfl]
        exact snd_3 hsp z0 hT h8
      rw [if_neg k3]
      by_cases k4 : k = 4
      · subst k4
        rw [if_pos rfl]
        cases n with
        | zero => exact snd_4z hsp rfl
        | succ n =>
          refine snd_4 hsp (by omega) (by omega) fun w2 hb => ?_
          rw [show ((8 - (n + 1) : Nat) : Int) + 1 = ((8 - n : Nat) : Int) by omega]
          exact sndL_d (ih n rfl) (r1.frame (w' := w2) (G := F) (fun j _ hj => hb.block j hj) (fun _ h _ => h)) e1 (by omega) hh1 z1 (fun j t c h1 h2 => (hl j t c h1 h2).frame (fun j _ hj => hb.block j hj) (fun _ h _ => h)) (hT.below hb (by omega)) (by have := hb.size; omega)
      rw [if_neg k4]
      by_cases k5 : k = 5
      · subst k5
        rw [if_pos rfl]
        cases n with
        | zero => exact snd_5z hsp rfl
        | succ n =>
          refine snd_5 hsp (by omega) (by omega) fun w2 hb => ?_
          rw [show ((8 - (n + 1) : Nat) : Int) + 1 = ((8 - n : Nat) : Int) by omega]
          exact (callsIn_wide (n := 5)).1 (sndP_in (ih n rfl) (r2.frame (w' := w2) (G := F) (fun j _ hj => hb.block j hj) (fun _ h _ => h)) e2 (by omega) hh2 z2 (fun j q c h1 h2 => ⟨hp1 j q c h1 h2, (hp2 j q c h1 h2).frame (fun j _ hj => hb.block j hj) (fun _ h _ => h)⟩) (hT.below hb (by omega)) (by have := hb.size; omega))
      rw [if_neg k5]
      exact snd_o hsp k0 k1 k2 k3 k4 k5
theorem sound_d : ∀ n, n ≤ 8 → Sok n
  | 0, h => sound_s h fun m e => by cases e
  | n + 1, h => sound_s h fun m e => by cases e; exact sound_d n (by omega)
theorem check_d {F : Nat → Prop} {w : World} {t : T} {c : List Value} {h : Nat} (hh : hgt h t) (hs : sbd h t) (hv : VA F w t c) (hT : Ev w) (h8 : 8 ≤ w.heap.size) : Calls Tryz.prog 17 #[.agg c.toArray] w fun e w' => e = .returned (if gd 8 t then .nilIface else .iface 52 (.int .i64 1)) ∧ Below w.heap.size w w' := by
  have hc5 := hv.len
  obtain ⟨y0, y1, y2, y3, y4, rfl⟩ := five_l hc5
  have hb0 := below_al (w := w) (.cells #[y0, y1, y2, y3, y4] 28)
  have hc := sound_d 8 (by omega) (c := [y0, y1, y2, y3, y4]) hh hs (hv.frame (fun j _ hj => hb0.block j hj) (fun _ h _ => h)) (hT.below hb0 (by omega)) (by have := hb0.size; omega)
  replace hc : Calls Tryz.prog 34 #[.agg #[y0, y1, y2, y3, y4], .int .i64 0] (w.alloc (.cells #[y0, y1, y2, y3, y4] 28)) _ := hc
  replace hb0 := hide1 hb0
  generalize gd 8 t = B at *
  clear hv hT hc5 hh hs
  show Calls Tryz.prog 17 #[.agg #[y0, y1, y2, y3, y4]] w _
  go_enter Tryz.func17, Tryz.ntmps17
  go_wp2_with fail
  refine hc.mono ?_
  rintro e w1 ⟨rfl, b1⟩
  replace b1 := hide1 (hb0.out.trans (b1.mono hb0.out.size))
  clear hc hb0
  cases B with
  | true =>
    go_wp2
    go_ret
    exact ⟨rfl, b1.out⟩
  | false =>
    go_wp2
    go_ret
    exact ⟨rfl, b1.out⟩
def smP (f : T → T → Bool) (p p' : List (List UInt8 × T)) : Bool := p.all fun q => match p'.find? (fun x => x.1 == q.1) with
  | some x => f q.2 x.2
  | none => false
def smB : Nat → T → T → Bool
  | 0, _, _ => false
  | h + 1, .mk k i s l p, .mk k' i' s' l' p' => decide (k = k') && (decide (i = i') && (decide (s = s') && ((decide (l.length = l'.length) && exL (smB h) l l') && (decide (p.length = p'.length) && smP (smB h) p p'))))
theorem find_nd : ∀ {p : List (List UInt8 × T)} {q : List UInt8 × T}, (p.map (·.1)).Nodup → q ∈ p → p.find? (fun x => x.1 == q.1) = some q
  | [], q, _, h => by cases h
  | a :: p, q, hn, h => by
    rw [List.map_cons] at hn
    obtain ⟨h1, h2⟩ := List.nodup_cons.1 hn
    rcases List.mem_cons.1 h with rfl | h
    · simp
    · have hne : (a.1 == q.1) = false := by
        rw [beq_eq_false_iff_ne]
        intro e
        exact h1 (e ▸ List.mem_map_of_mem h)
      rw [List.find?_cons, hne]
      exact find_nd h2 h
theorem gd_list {n : Nat} {k i : Int} {s : List UInt8} {l : List T} {p : List (List UInt8 × T)} (h : gd n (.mk k i s l p) = true) : (l = [] ∨ ∃ m, n = m + 1 ∧ ∀ t ∈ l, gd m t = true) ∧ (p = [] ∨ ∃ m, n = m + 1 ∧ ∀ q ∈ p, gd m q.2 = true) ∧ (p.map (·.1)).Nodup ∧ (k ≠ 5 → p = []) := by
  unfold gd at h
  rw [Bool.and_eq_true] at h
  obtain ⟨h1, h2⟩ := h
  have h1 : spB k i s l.length p.length = false := by simpa using h1
  have hl : k ≠ 4 → l = [] := fun hk => by
    cases l with
    | nil => rfl
    | cons a l => rw [spB_3 ⟨by simp, hk⟩] at h1; cases h1
  have hp : k ≠ 5 → p = [] := fun hk => by
    cases p with
    | nil => rfl
    | cons a p => rw [spB_4 ⟨by simp, hk⟩] at h1; cases h1
  refine ⟨?_, ?_, ?_, hp⟩
  · by_cases k4 : k = 4
    · subst k4
      simp only [show ¬ (4 : Int) = 0 by omega, show ¬ (4 : Int) = 1 by omega, show ¬ (4 : Int) = 2 by omega, show ¬ (4 : Int) = 3 by omega, if_false, if_true] at h2
      cases n with
      | zero => cases h2
      | succ n => exact .inr ⟨n, rfl, List.all_eq_true.1 h2⟩
    · exact .inl (hl k4)
  · by_cases k5 : k = 5
    · subst k5
      simp only [show ¬ (5 : Int) = 0 by omega, show ¬ (5 : Int) = 1 by omega, show ¬ (5 : Int) = 2 by omega, show ¬ (5 : Int) = 3 by omega, show ¬ (5 : Int) = 4 by omega, if_false, if_true] at h2
      cases n with
      | zero => cases h2
      | succ n =>
        rw [Bool.and_eq_true] at h2
        refine .inr ⟨n, rfl, fun q hq => ?_⟩
        have := List.all_eq_true.1 h2.1 q hq
        rw [Bool.and_eq_true] at this
        exact this.2
    · exact .inl (hp k5)
  · by_cases k5 : k = 5
    · subst k5
      simp only [show ¬ (5 : Int) = 0 by omega, show ¬ (5 : Int) = 1 by omega, show ¬ (5 : Int) = 2 by omega, show ¬ (5 : Int) = 3 by omega, show ¬ (5 : Int) = 4 by omega, if_false, if_true] at h2
      cases n with
      | zero => cases h2
      | succ n =>
        rw [Bool.and_eq_true] at h2
        exact of_decide_eq_true h2.2
    · rw [hp k5]; simp
theorem exL_all {f : T → T → Bool} : ∀ {l l' : List T}, l.length = l'.length → ((exL f l l' = true) ↔ ∀ (j : Nat) (a b : T), l[j]? = some a → l'[j]? = some b → f a b = true)
  | [], [], _ => by simp [exL]
  | a :: l, b :: l', h => by
    have ih := exL_all (f := f) (l := l) (l' := l') (by simpa using h)
    rw [show exL f (a :: l) (b :: l') = (f a b && exL f l l') from rfl, Bool.and_eq_true, ih]
    constructor
    · rintro ⟨h1, h2⟩ j x y hx hy
      cases j with
      | zero => cases hx; cases hy; exact h1
      | succ j => exact h2 j x y (by simpa using hx) (by simpa using hy)
    · intro h3
      exact ⟨h3 0 a b rfl rfl, fun j x y hx hy => h3 (j + 1) x y (by simpa using hx) (by simpa using hy)⟩
theorem smP_all {f : T → T → Bool} {p p' : List (List UInt8 × T)} : smP f p p' = true ↔ ∀ q ∈ p, ∃ x, p'.find? (fun x => x.1 == q.1) = some x ∧ f q.2 x.2 = true := by
  unfold smP
  rw [List.all_eq_true]
  constructor
  · intro h q hq
    have := h q hq
    split at this
    · rename_i x hx; exact ⟨x, hx, this⟩
    · cases this
  · intro h q hq
    obtain ⟨x, h1, h2⟩ := h q hq
    rw [h1]; exact h2
def exw (w : World) (c : Array Value) : World := (w.alloc (.cells #[.int .i64 0, .int .i64 0, .string ⟨#[]⟩, .slice none 0 0, .slice none 0 0] 28)).setRow w.heap.size c
theorem exw_z (w : World) : (w.alloc (.cells #[.int .i64 0, .int .i64 0, .string ⟨#[]⟩, .slice none 0 0, .slice none 0 0] 28)).heap[w.heap.size]? = some (.cells #[.int .i64 0, .int .i64 0, .string ⟨#[]⟩, .slice none 0 0, .slice none 0 0] 28 (0, 0)) := by
  show (w.heap.push _)[w.heap.size]? = _
  rw [Array.getElem?_push, if_pos rfl]
theorem exw_at (w : World) (c : Array Value) : (exw w c).heap[w.heap.size]? = some (.cells c 28 (0, 0)) := setRow_heap _ w.heap.size _ c _ _ (exw_z w)
theorem exw_bl (w : World) (c : Array Value) : Below w.heap.size w (exw w c) := ⟨rfl, rfl, rfl, by simp [exw, World.setRow], fun k hk => (setRow_other _ _ k _ (by omega)).trans (by
  show (w.heap.push _)[k]? = _
  rw [Array.getElem?_push, if_neg (by omega)])⟩
theorem exw_sz (w : World) (c : Array Value) : (exw w c).heap.size = w.heap.size + 1 := by simp [exw, World.setRow]
theorem rg5 {w : World} {b : Nat} {y0 y1 y2 y3 y4 : Value} {t : TypeId} (h : w.heap[b]? = some (.cells #[y0, y1, y2, y3, y4] t (0, 0))) : w.rangeAt b 0 [y0, y1, y2, y3, y4] := fun j v hj => by
  simp only [World.cell?, h]
  rw [Nat.zero_add]
  simpa using hj
set_option maxHeartbeats 8000000 in
set_option maxRecDepth 100000 in
theorem eqf_d {K : Nat} (he : ∀ args w, (callFunc K args).run Tryz.prog w = .ok (.enter K args) w) {f : T → T → Bool} {F G : Nat → Prop} {w : World} {v v' : Value} {l l' : List T} {cl cl' : List (List Value)} (r : RwA F w Vt 5 v cl) (r' : RwA G w Vt 5 v' cl') (hl : cl.length = l.length) (hl' : cl'.length = l'.length) (hb : cl.length ≤ 1000000)
    (ho : ∀ c ∈ cl, c.all (·.oneCell') = true) (ho' : ∀ c ∈ cl', c.all (·.oneCell') = true)
    (hf : ∀ w2, Below w.heap.size w w2 → ∀ (j : Nat) (a b : T) (c c' : List Value), l[j]? = some a → l'[j]? = some b → cl[j]? = some c → cl'[j]? = some c' → Calls Tryz.prog K #[.agg c.toArray, .agg c'.toArray] w2 fun e w3 => e = .returned (.bool (f a b)) ∧ Below w2.heap.size w2 w3) :
    Calls Tryz.prog 75 #[v, v', .func (.func K) #[] #[]] w fun e w' => e = .returned (.bool (decide (l.length = l'.length) && exL f l l')) ∧ Below w.heap.size w w' := by
  obtain ⟨sa, sc, rfl⟩ := r.slc
  obtain ⟨sa', sc', rfl⟩ := r'.slc
  by_cases hlen : cl.length = cl'.length
  case neg =>
    have hne : ((cl.length : Int) != (cl'.length : Int)) = true := by simp; omega
    rw [decide_eq_false (by omega), Bool.false_and]
    clear r r' hf ho ho'
    generalize cl.length = A at *
    generalize cl'.length = A' at *
    go_enter Tryz.func75, Tryz.ntmps75
    go_wp2
    go_ret
    exact ⟨rfl, Below.refl _ _⟩
  case pos =>
    rw [decide_eq_true (by omega), Bool.true_and]
    obtain ⟨B, hB⟩ : ∃ B, Hid (B = exL f l l') := ⟨_, hide1 rfl⟩
    rw [← hB.out]
    rw [← hlen] at r' ⊢
    obtain ⟨A, hA⟩ : ∃ A, Hid (A = cl.length) := ⟨_, hide1 rfl⟩
    rw [← hA.out] at r r' hb ⊢
    replace r := hide1 r
    replace r' := hide1 r'
    replace hf := hide1 hf
    replace ho := hide1 ho
    replace ho' := hide1 ho'
    replace hl := hide1 hl
    replace hl' := hide1 hl'
    replace hlen := hide1 hlen
    go_enter Tryz.func75, Tryz.ntmps75
    go_wp2_with fail
    go_loopw [17] (fun x wr => ∃ i : Nat, x = .int .i64 (i : Nat) ∧ i ≤ A ∧ Hid (exL f (l.drop i) (l'.drop i) = B) ∧ Hid (Below w.heap.size w wr)) (fun x _ => A - (intOf x).toNat)
    case atStart => exact ⟨0, rfl, by omega, hide1 hB.out.symm, hide1 (Below.refl _ _)⟩
    case round =>
      obtain ⟨i, rfl, hin, hme, hbw⟩ := hrel
      by_cases hlt : i < A
      · obtain ⟨x, hx⟩ : ∃ x, cl[i]? = some x := ⟨_, List.getElem?_eq_getElem (by have := hA.out; omega)⟩
        obtain ⟨x', hx'⟩ : ∃ x, cl'[i]? = some x := ⟨_, List.getElem?_eq_getElem (by have := hA.out; have := hlen.out; omega)⟩
        obtain ⟨u, hu⟩ : ∃ u, l[i]? = some u := ⟨_, List.getElem?_eq_getElem (by have := hA.out; have := hl.out; omega)⟩
        obtain ⟨u', hu'⟩ : ∃ u, l'[i]? = some u := ⟨_, List.getElem?_eq_getElem (by have := hA.out; have := hlen.out; have := hl'.out; omega)⟩
        obtain ⟨b, o, cap, hve, -, hbl, hr⟩ := r.out.at hx
        obtain ⟨b', o', cap', hve', -, hbl', hr'⟩ := r'.out.at hx'
        have hva : sa = some ⟨b, o, none⟩ := by cases hve; rfl
        have hva' : sa' = some ⟨b', o', none⟩ := by cases hve'; rfl
        subst hva hva'
        have hc1 := hf.out
        have o1 := ho.out x (List.mem_of_getElem? hx)
        have o2 := ho'.out x' (List.mem_of_getElem? hx')
        have hms := exL_drop (f := f) hu hu'
        rw [hme.out] at hms
        have hcall : Hid (∀ w2, Below w.heap.size w w2 → Calls Tryz.prog K #[.agg x.toArray, .agg x'.toArray] w2 fun e w3 => e = .returned (.bool (f u u')) ∧ Below w2.heap.size w2 w3) := hide1 fun w2 h2 => hf.out w2 h2 i u u' x x' hu hu' hx hx'
        obtain ⟨x0, x1, x2, x3, x4, rfl⟩ := five_l (r.out.1 x (List.mem_of_getElem? hx))
        obtain ⟨z0, z1, z2, z3, z4, rfl⟩ := five_l (r'.out.1 x' (List.mem_of_getElem? hx'))
        have hr2 : wr.rangeAt b (o + i * 5) [x0, x1, x2, x3, x4] := fun j v hj => by
          rw [World.cell?_of_block (w := w) (hbw.out.block b hbl)]
          exact hr j v hj
        have hbA := exw_bl wr #[x0, x1, x2, x3, x4]
        have hsA := exw_sz wr #[x0, x1, x2, x3, x4]
        have hBA : Below w.heap.size w (exw wr #[x0, x1, x2, x3, x4]) := hbw.out.trans (hbA.mono hbw.out.size)
        have hr2' : (exw wr #[x0, x1, x2, x3, x4]).rangeAt b' (o' + i * 5) [z0, z1, z2, z3, z4] := fun j v hj => by
          rw [World.cell?_of_block (w := w) (hBA.block b' hbl')]
          exact hr' j v hj
        have haA := exw_at wr #[x0, x1, x2, x3, x4]
        have o1' : (#[x0, x1, x2, x3, x4].all fun x => x.oneCell') = true := by simpa using o1
        have o2' : (#[z0, z1, z2, z3, z4].all fun x => x.oneCell') = true := by simpa using o2
        replace hms := hide1 hms
        replace hsA := hide1 hsA
        replace haA := hide1 haA
        replace hbA := hide1 hbA
        replace hBA := hide1 hBA
        replace o1' := hide1 o1'
        replace o2' := hide1 o2'
        have hsw := hbw.out.size
        clear hve hve' hr hr' hx hx' hu hu' hc1 o1 o2 hme hf
        go_upto_region 6 with (first
          | refine wpList_load_mid rfl 28 (.tmp 20) rfl b (o + i * 5) rfl [x0, x1, x2, x3, x4] _ hr2 Tryz.underlying28 rfl (by kernel_rfl) ?_
          | refine wpList_store_row rfl 28 (.tmp 8) (.tmp 21) rfl wr.heap.size #[x0, x1, x2, x3, x4] rfl rfl 28 _ (exw_z wr) (by kernel_rfl) rfl o1'.out ?_)
        generalize hwe : exw wr #[x0, x1, x2, x3, x4] = wA at *
        rw [show (wr.alloc (.cells #[.int .i64 0, .int .i64 0, .string ⟨#[]⟩, .slice none 0 0, .slice none 0 0] 28)).setRow wr.heap.size #[x0, x1, x2, x3, x4] = wA from hwe]
        clear hwe hr2
        have hbC := exw_bl wA #[z0, z1, z2, z3, z4]
        have hBC := hBA.out.trans (hbC.mono hBA.out.size)
        have haC := exw_at wA #[z0, z1, z2, z3, z4]
        have haA2 := (hbC.block wr.heap.size (by have := hsA.out; omega)).trans haA.out
        have hcl := hcall.out _ hBC
        have q1 := rg5 haA2
        have q2 := rg5 haC
        replace hBC := hide1 hBC
        clear haA haA2 haC hbC hcall
        go_upto_region 7 with (first
          | refine wpList_load_mid rfl 28 (.tmp 24) rfl b' (o' + i * 5) rfl [z0, z1, z2, z3, z4] _ hr2' Tryz.underlying28 rfl (by kernel_rfl) ?_
          | refine wpList_store_row rfl 28 (.tmp 9) (.tmp 25) rfl wA.heap.size #[z0, z1, z2, z3, z4] rfl rfl 28 _ (exw_z wA) (by kernel_rfl) rfl o2'.out ?_)
        generalize hwe : exw wA #[z0, z1, z2, z3, z4] = wC at *
        rw [show (wA.alloc (.cells #[.int .i64 0, .int .i64 0, .string ⟨#[]⟩, .slice none 0 0, .slice none 0 0] 28)).setRow wA.heap.size #[z0, z1, z2, z3, z4] = wC from hwe]
        clear hwe hr2' hBA hbA hbw
        replace hcl : Calls Tryz.prog K #[.agg #[x0, x1, x2, x3, x4], .agg #[z0, z1, z2, z3, z4]] wC _ := hcl
        go_wp2_with (first
          | refine wpList_load_mid rfl 28 (.tmp 8) rfl wr.heap.size 0 rfl [x0, x1, x2, x3, x4] _ q1 Tryz.underlying28 rfl (by kernel_rfl) ?_
          | refine wpList_load_mid rfl 28 (.tmp 9) rfl wA.heap.size 0 rfl [z0, z1, z2, z3, z4] _ q2 Tryz.underlying28 rfl (by kernel_rfl) ?_)
        refine hcl.mono ?_
        rintro e w2 ⟨rfl, b2⟩
        have hb2 := hide1 (hBC.out.trans (b2.mono hBC.out.size))
        clear hcl b2 hBC q1 q2
        cases hq : f u u' with
        | true =>
          replace hms : Hid (B = exL f (l.drop (i + 1)) (l'.drop (i + 1))) := hide1 (hms.out.trans (by rw [hq, Bool.true_and]))
          clear hq
          go_wp2
          go_roundw
          case rel => exact ⟨i + 1, rfl, by omega, hide1 hms.out.symm, hb2⟩
          case measure => simp [intOf]; omega
        | false =>
          have hfin : Hid ((Ending.returned (.bool false) : Ending) = .returned (.bool B) ∧ Below w.heap.size w w2) := hide1 ⟨by rw [hms.out, hq, Bool.false_and], hb2.out⟩
          clear hms hq hB
          go_wp2
          go_ret
          exact hfin.out
      · have hfin : Hid ((Ending.returned (.bool true) : Ending) = .returned (.bool B) ∧ Below w.heap.size w wr) := hide1 ⟨by
          rw [← hme.out, List.drop_of_length_le (by have := hA.out; have := hl.out; omega)]; rfl, hbw.out⟩
        have hie : i = A := by omega
        subst hie
        clear hme hbw hlt hB
        go_wp2
        go_ret
        exact hfin.out
def Mok (n : Nat) : Prop := ∀ {F G : Nat → Prop} {w : World} {t t' : T} {c c' : List Value} {h h' : Nat}, gd n t = true → gd n t' = true → hgt h t → hgt h' t' → sbd h t → sbd h' t' → VA F w t c → VA G w t' c' → Calls Tryz.prog 42 #[.agg c.toArray, .agg c'.toArray] w fun e w' => e = .returned (.bool (smB (n + 1) t t')) ∧ Below w.heap.size w w'
section
variable {k i : Int} {s : List UInt8} {sa pa sa' pa' : Option Addr} {A P A' P' sc pc sc' pc' : Nat} {w : World}
set_option maxHeartbeats 4000000 in
set_option maxRecDepth 100000 in
theorem sm_k {k' i' : Int} {s' : List UInt8} (hk : k ≠ k') : Calls Tryz.prog 42 #[.agg #[.int .i64 k, .int .i64 i, .string (st s), .slice sa A sc, .slice pa P pc], .agg #[.int .i64 k', .int .i64 i', .string (st s'), .slice sa' A' sc', .slice pa' P' pc']] w fun e w' => e = .returned (.bool false) ∧ Below w.heap.size w w' := by
  have d : (k == k') = false := by simpa using hk
  have hb := hide1 ((below_al (w := w) (.cells #[.int .i64 k, .int .i64 i, .string (st s), .slice sa A sc, .slice pa P pc] 28)).alloc (by simp) (.cells #[.int .i64 k', .int .i64 i', .string (st s'), .slice sa' A' sc', .slice pa' P' pc'] 28))
  clear hk
  go_enter Tryz.func42, Tryz.ntmps42
  go_wp2
  go_ret
  exact ⟨rfl, hb.out⟩
set_option maxHeartbeats 4000000 in
set_option maxRecDepth 100000 in
theorem sm_i {i' : Int} {s' : List UInt8} (hk : i ≠ i') : Calls Tryz.prog 42 #[.agg #[.int .i64 k, .int .i64 i, .string (st s), .slice sa A sc, .slice pa P pc], .agg #[.int .i64 k, .int .i64 i', .string (st s'), .slice sa' A' sc', .slice pa' P' pc']] w fun e w' => e = .returned (.bool false) ∧ Below w.heap.size w w' := by
  have d : (i == i') = false := by simpa using hk
  have hb := hide1 ((below_al (w := w) (.cells #[.int .i64 k, .int .i64 i, .string (st s), .slice sa A sc, .slice pa P pc] 28)).alloc (by simp) (.cells #[.int .i64 k, .int .i64 i', .string (st s'), .slice sa' A' sc', .slice pa' P' pc'] 28))
  clear hk
  go_enter Tryz.func42, Tryz.ntmps42
  go_wp2
  go_ret
  exact ⟨rfl, hb.out⟩
set_option maxHeartbeats 4000000 in
set_option maxRecDepth 100000 in
theorem sm_s {s' : List UInt8} (hk : s ≠ s') : Calls Tryz.prog 42 #[.agg #[.int .i64 k, .int .i64 i, .string (st s), .slice sa A sc, .slice pa P pc], .agg #[.int .i64 k, .int .i64 i, .string (st s'), .slice sa' A' sc', .slice pa' P' pc']] w fun e w' => e = .returned (.bool false) ∧ Below w.heap.size w w' := by
  have d : ((st s).toList == (st s').toList) = false := by rw [st_eq]; exact decide_eq_false hk
  have hb := hide1 ((below_al (w := w) (.cells #[.int .i64 k, .int .i64 i, .string (st s), .slice sa A sc, .slice pa P pc] 28)).alloc (by simp) (.cells #[.int .i64 k, .int .i64 i, .string (st s'), .slice sa' A' sc', .slice pa' P' pc'] 28))
  clear hk
  go_enter Tryz.func42, Tryz.ntmps42
  go_wp2
  go_ret
  exact ⟨rfl, hb.out⟩
set_option maxHeartbeats 4000000 in
set_option maxRecDepth 100000 in
theorem sm_l {B C : Bool} (hl : ∀ w2, Below w.heap.size w w2 → Calls Tryz.prog 75 #[.slice sa A sc, .slice sa' A' sc', .func (.func 42) #[] #[]] w2 fun e w3 => e = .returned (.bool B) ∧ Below w2.heap.size w2 w3)
    (hp : ∀ w2, Below w.heap.size w w2 → Calls Tryz.prog 76 #[.agg #[.int .i64 k, .int .i64 i, .string (st s), .slice sa A sc, .slice pa P pc], .agg #[.int .i64 k, .int .i64 i, .string (st s), .slice sa' A' sc', .slice pa' P' pc']] w2 fun e w3 => e = .returned (.bool C) ∧ Below w2.heap.size w2 w3) :
    Calls Tryz.prog 42 #[.agg #[.int .i64 k, .int .i64 i, .string (st s), .slice sa A sc, .slice pa P pc], .agg #[.int .i64 k, .int .i64 i, .string (st s), .slice sa' A' sc', .slice pa' P' pc']] w fun e w' => e = .returned (.bool (B && C)) ∧ Below w.heap.size w w' := by
  have hb := (below_al (w := w) (.cells #[.int .i64 k, .int .i64 i, .string (st s), .slice sa A sc, .slice pa P pc] 28)).alloc (by simp) (.cells #[.int .i64 k, .int .i64 i, .string (st s), .slice sa' A' sc', .slice pa' P' pc'] 28)
  obtain ⟨w1, hw1⟩ : ∃ w1, w1 = (w.alloc (.cells #[.int .i64 k, .int .i64 i, .string (st s), .slice sa A sc, .slice pa P pc] 28)).alloc (.cells #[.int .i64 k, .int .i64 i, .string (st s), .slice sa' A' sc', .slice pa' P' pc'] 28) := ⟨_, rfl⟩
  have r0 : w1.heap[w.heap.size]? = some (.cells #[.int .i64 k, .int .i64 i, .string (st s), .slice sa A sc, .slice pa P pc] 28 (0, 0)) := by
    rw [hw1]
    show ((w.heap.push _).push _)[w.heap.size]? = _
    rw [Array.getElem?_push, if_neg (by simp), Array.getElem?_push, if_pos rfl]
  have r1 : w1.heap[w.heap.size + 1]? = some (.cells #[.int .i64 k, .int .i64 i, .string (st s), .slice sa' A' sc', .slice pa' P' pc'] 28 (0, 0)) := by
    rw [hw1]
    show ((w.heap.push _).push _)[w.heap.size + 1]? = _
    rw [Array.getElem?_push, if_pos (by simp)]
  rw [← hw1] at hb
  have hs : ((st s).toList == (st s).toList) = true := by simp
  have hc := hl w1 hb
  replace hb := hide1 hb
  replace hp := hide1 hp
  replace r0 := hide1 r0
  replace r1 := hide1 r1
  clear hl
  go_enter Tryz.func42, Tryz.ntmps42
  go_wp2_with fail
  rw [← hw1]
  refine hc.mono ?_
  rintro e w2 ⟨rfl, b2⟩
  have hB2 := hb.out.trans (b2.mono hb.out.size)
  have q0 := (b2.block _ (Array.getElem?_eq_some_iff.1 r0.out).1).trans r0.out
  have q1 := (b2.block _ (Array.getElem?_eq_some_iff.1 r1.out).1).trans r1.out
  have hc2 := hp.out w2 hB2
  replace hB2 := hide1 hB2
  clear hc b2 hw1 hb r0 r1
  cases B with
  | false =>
    go_wp2
    go_ret
    exact ⟨rfl, hB2.out⟩
  | true =>
    have l0 : w2.cell? ⟨w.heap.size, 0, none⟩ = some (.int .i64 k) := by simp only [World.cell?, q0]; rfl
    have l1 : w2.cell? ⟨w.heap.size, 1, none⟩ = some (.int .i64 i) := by simp only [World.cell?, q0]; rfl
    have l2 : w2.cell? ⟨w.heap.size, 2, none⟩ = some (.string (st s)) := by simp only [World.cell?, q0]; rfl
    have l3 : w2.cell? ⟨w.heap.size, 3, none⟩ = some (.slice sa A sc) := by simp only [World.cell?, q0]; rfl
    have l4 : w2.cell? ⟨w.heap.size, 4, none⟩ = some (.slice pa P pc) := by simp only [World.cell?, q0]; rfl
    have m0 : w2.cell? ⟨w.heap.size + 1, 0, none⟩ = some (.int .i64 k) := by simp only [World.cell?, q1]; rfl
    have m1 : w2.cell? ⟨w.heap.size + 1, 1, none⟩ = some (.int .i64 i) := by simp only [World.cell?, q1]; rfl
    have m2 : w2.cell? ⟨w.heap.size + 1, 2, none⟩ = some (.string (st s)) := by simp only [World.cell?, q1]; rfl
    have m3 : w2.cell? ⟨w.heap.size + 1, 3, none⟩ = some (.slice sa' A' sc') := by simp only [World.cell?, q1]; rfl
    have m4 : w2.cell? ⟨w.heap.size + 1, 4, none⟩ = some (.slice pa' P' pc') := by simp only [World.cell?, q1]; rfl
    clear q0 q1
    go_wp2_with fail
    refine hc2.mono ?_
    rintro e w3 ⟨rfl, b3⟩
    have hB3 := hide1 (hB2.out.trans (b3.mono hB2.out.size))
    clear hc2 b3 hB2 l0 l1 l2 l3 l4 m0 m1 m2 m3 m4
    go_wp2
    go_ret
    exact ⟨rfl, hB3.out⟩
end
def Pok (n : Nat) : Prop := ∀ {F G : Nat → Prop} {w : World} {k i : Int} {s : List UInt8} {p p' : List (List UInt8 × T)} {sl sp sl' sp' : Value} {cp cp' : List (List Value)} {h h' : Nat}, (p ≠ [] → Mok n) → (∀ q ∈ p, gd n q.2 = true) → (∀ q ∈ p', gd n q.2 = true) → (p'.map (·.1)).Nodup → (k ≠ 5 → p = []) → (∀ q ∈ p, hgt h q.2) → (∀ q ∈ p, q.1.length ≤ 9223372036854775807 ∧ sbd h q.2) → (∀ q ∈ p', q.1.length ≤ 9223372036854775807 ∧ sbd h' q.2) → (∀ q ∈ p', hgt h' q.2) → cp.length ≤ 1000000 → cp'.length ≤ 1000000 →
  sl.oneCell' = true → sl'.oneCell' = true → RwA F w Pt 6 sp cp → RwA G w Pt 6 sp' cp' → cp.length = p.length → cp'.length = p'.length → (∀ (j : Nat) (q : List UInt8 × T) (c : List Value), p[j]? = some q → cp[j]? = some c → PA F w q c) → (∀ (j : Nat) (q : List UInt8 × T) (c : List Value), p'[j]? = some q → cp'[j]? = some c → PA G w q c) →
  Calls Tryz.prog 76 #[.agg #[.int .i64 k, .int .i64 i, .string (st s), sl, sp], .agg #[.int .i64 k, .int .i64 i, .string (st s), sl', sp']] w fun e w' => e = .returned (.bool (decide (p.length = p'.length) && smP (smB (n + 1)) p p')) ∧ Below w.heap.size w w'
theorem one_all {F : Nat → Prop} {w : World} {l : List T} {cl : List (List Value)} (e : cl.length = l.length) (h : ∀ (j : Nat) (t : T) (c : List Value), l[j]? = some t → cl[j]? = some c → VA F w t c) : ∀ c ∈ cl, c.all (·.oneCell') = true := fun c hc => by
  obtain ⟨j, hj, rfl⟩ := List.mem_iff_getElem.1 hc
  exact (h j _ _ (List.getElem?_eq_getElem (by omega)) (List.getElem?_eq_getElem hj)).one
theorem smB_0 {k i : Int} {s : List UInt8} {l : List T} {p : List (List UInt8 × T)} {k' i' : Int} {s' : List UInt8} {l' : List T} {p' : List (List UInt8 × T)} {h : Nat} : smB (h + 1) (.mk k i s l p) (.mk k' i' s' l' p') = (decide (k = k') && (decide (i = i') && (decide (s = s') && ((decide (l.length = l'.length) && exL (smB h) l l') && (decide (p.length = p'.length) && smP (smB h) p p'))))) := rfl
theorem same_s {n : Nat} (ih : ∀ m, n = m + 1 → Mok m) (hP : ∀ m, n = m + 1 → Pok m) (hP0 : Pok 0) : Mok n := by
  intro F G w t t' c c' h h' hg hg' hh hh' hs0 hs' hv hv'
  cases h with
  | zero => exact hh.elim
  | succ h =>
  cases h' with
  | zero => exact hh'.elim
  | succ h' =>
  cases hv with
  | @mk k i s l p sl sp cl cp r1 r2 e1 e2 hl hp1 hp2 =>
  cases hv' with
  | @mk k' i' s' l' p' sl' sp' cl' cp' r1' r2' e1' e2' hl' hp1' hp2' =>
    obtain ⟨b1, b2, hh1, hh2⟩ := hh
    obtain ⟨b1', b2', hh1', hh2'⟩ := hh'
    obtain ⟨_, z1, z2⟩ := hs0
    obtain ⟨z0', z1', z2'⟩ := hs'
    obtain ⟨g1, g2, g3, g4⟩ := gd_list hg
    obtain ⟨g1', g2', g3', g4'⟩ := gd_list hg'
    obtain ⟨sa, sc, rfl⟩ := r1.slc
    obtain ⟨pa, pc, rfl⟩ := r2.slc
    obtain ⟨sa', sc', rfl⟩ := r1'.slc
    obtain ⟨pa', pc', rfl⟩ := r2'.slc
    rw [smB_0]
    by_cases hk : k = k'
    case neg => rw [decide_eq_false hk, Bool.false_and]; exact sm_k hk
    subst hk
    by_cases hi : i = i'
    case neg => rw [decide_eq_false hi, Bool.false_and, Bool.and_false]; exact sm_i hi
    subst hi
    by_cases hs : s = s'
    case neg => rw [decide_eq_false hs, Bool.false_and, Bool.and_false, Bool.and_false]; exact sm_s hs
    subst hs
    simp only [decide_true, Bool.true_and]
    refine sm_l (fun w2 hb => ?_) (fun w2 hb => ?_)
    · refine eqf_d (fun _ _ => by kernel_rfl) (r1.frame (w' := w2) (G := F) (fun j _ hj => hb.block j hj) (fun _ h _ => h)) (r1'.frame (w' := w2) (G := G) (fun j _ hj => hb.block j hj) (fun _ h _ => h)) e1 e1' (by omega) (one_all e1 hl) (one_all e1' hl') ?_
      intro w3 hb3 j a b c c' ha hb' hc hc'
      rcases g1 with rfl | ⟨m, rfl, hm⟩
      · simp at ha
      · rcases g1' with rfl | ⟨m', e, hm'⟩
        · simp at hb'
        · cases e
          have hB := hb.trans (hb3.mono hb.size)
          exact ih m rfl (hm a (List.mem_of_getElem? ha)) (hm' b (List.mem_of_getElem? hb')) (hh1 a (List.mem_of_getElem? ha)) (hh1' b (List.mem_of_getElem? hb')) (z1 a (List.mem_of_getElem? ha)) (z1' b (List.mem_of_getElem? hb')) ((hl j a c ha hc).frame (w' := w3) (G := F) (fun j _ hj => hB.block j hj) (fun _ h _ => h)) ((hl' j b c' hb' hc').frame (w' := w3) (G := G) (fun j _ hj => hB.block j hj) (fun _ h _ => h))
    · have q1 : ∀ (j : Nat) (q : List UInt8 × T) (c : List Value), p[j]? = some q → cp[j]? = some c → PA F w2 q c := fun j q c h1 h2 => ⟨hp1 j q c h1 h2, (hp2 j q c h1 h2).frame (w' := w2) (G := F) (fun j _ hj => hb.block j hj) (fun _ h _ => h)⟩
      have q2 : ∀ (j : Nat) (q : List UInt8 × T) (c : List Value), p'[j]? = some q → cp'[j]? = some c → PA G w2 q c := fun j q c h1 h2 => ⟨hp1' j q c h1 h2, (hp2' j q c h1 h2).frame (w' := w2) (G := G) (fun j _ hj => hb.block j hj) (fun _ h _ => h)⟩
      have fr := r2.frame (w' := w2) (G := F) (fun j _ hj => hb.block j hj) (fun _ h _ => h)
      have fr' := r2'.frame (w' := w2) (G := G) (fun j _ hj => hb.block j hj) (fun _ h _ => h)
      cases n with
      | zero =>
        have ep : p = [] := g2.resolve_right (fun ⟨m, e, _⟩ => by cases e)
        have ep' : p' = [] := g2'.resolve_right (fun ⟨m, e, _⟩ => by cases e)
        have hq := hP0 (sl := .slice sa cl.length sc) (sl' := .slice sa' cl'.length sc') (k := k) (i := i) (s := s) (p := p) (p' := p') (h := h) (h' := h') (fun e => absurd ep e) (by simp [ep]) (by simp [ep']) g3' g4 hh2 z2 z2' hh2' (by omega) (by omega) rfl rfl fr fr' e2 e2' q1 q2
        have e : smP (smB 0) p p' = smP (smB 1) p p' := by subst ep; rfl
        rw [e]
        exact hq
      | succ n =>
        refine hP n rfl (h := h) (h' := h') (fun _ => ih n rfl) (fun q hq => ?_) (fun q hq => ?_) g3' g4 hh2 z2 z2' hh2' (by omega) (by omega) rfl rfl fr fr' e2 e2' q1 q2
        · rcases g2 with e | ⟨m, e, hm⟩
          · rw [e] at hq; cases hq
          · cases e; exact hm q hq
        · rcases g2' with e | ⟨m, e, hm⟩
          · rw [e] at hq; cases hq
          · cases e; exact hm q hq
section
variable {F : Fence} {n : Nat} {P : Program} {ops : Array Oper} {Q : Exit → Act → World → Prop}
end
section
variable {F : Fence} {n : Nat} {P : Program} {ops : Array Oper} {Q : Exit → Act → World → Prop}
theorem wpAnyIn_symG (hF : ∀ f, F.fn f) (hacyc : ∀ i o, ops[i]? = some o → ∀ e ∈ o.after, Region.binds .any e = true → e.on < i) (I : (Nat → Bool) → Act → World → Prop)
    (hstep : ∀ D a w, I D a w → ∀ i o, ops[i]? = some o → D i = false → (∀ e ∈ o.after, Region.binds .any e = true → D e.on = true) → ∀ K : Act → World → Prop,
      (∀ a' w', I (add1 D i) a' w' → K a' w') → (Region.wanted o (yielded ops a.tmps) = true ∧ o.wpIn F n P a w K Q) ∨ (Region.wanted o (yielded ops a.tmps) = false ∧ K (a.put o.dst undef) w))
    (hend : ∀ D a w, I D a w → (∀ i, i < ops.size → D i = true) → Q .normal a w) :
    ∀ (fuel : Nat) (l : Array Bool) (a : Act) (w : World), l.size = ops.size → (l.toList.filter (!·)).length ≤ fuel → I (fun i => l.getD i false) a w → wpAnyIn F n P .any ops Q fuel l a w
  | 0, l, a, w, hsz, hf, hi => by
    have hr : Region.ready .any ops l = [] := by
      rw [List.eq_nil_iff_forall_not_mem]
      intro j hj
      obtain ⟨h1, o, ho, _⟩ := mem_ready.1 hj
      have hjl : j < l.size := by rw [hsz]; exact (Array.getElem?_eq_some_iff.1 ho).1
      have h2 : l.toList[j]? = some false := by simp [Array.getD, hjl] at h1 ⊢; exact h1
      have := left_set l.toList j h2
      omega
    exact ⟨hr, hend _ _ _ hi (all_listed hsz hacyc hr)⟩
  | fuel + 1, l, a, w, hsz, hf, hi => by
    refine ⟨fun hr => hend _ _ _ hi (all_listed hsz hacyc hr), fun j hj => ?_⟩
    obtain ⟨h1, o, ho, hdep⟩ := mem_ready.1 hj
    have hjl : j < l.size := by rw [hsz]; exact (Array.getElem?_eq_some_iff.1 ho).1
    have h2 : l.toList[j]? = some false := by simp [Array.getD, hjl] at h1 ⊢; exact h1
    have h3 : l.getD j false = false := by simp [Array.getD, hjl] at h1 ⊢; exact h1
    have h4 := left_set l.toList j h2
    have hk := hstep _ a w hi j o ho h3 hdep (wpAnyIn F n P .any ops Q fuel (l.setIfInBounds j true)) (fun a' w' h => by
      refine wpAnyIn_symG hF hacyc I hstep hend fuel (l.setIfInBounds j true) a' w' (by simp [hsz]) (by simp; omega) ?_
      have e : (fun i => (l.setIfInBounds j true).getD i false) = add1 (fun i => l.getD i false) j := by
        funext i
        unfold add1
        by_cases h : i = j
        · subst h; simp [Array.getD, hjl]
        · have h' : ¬ j = i := fun x => h x.symm
          by_cases hil : i < l.size
          · simp [Array.getD, hil, h, h']
          · simp [Array.getD, hil, h]
      rw [e]; exact h)
    unfold wpOpIn
    simp only [ho]
    rcases hk with ⟨h5, h6⟩ | ⟨h5, h6⟩
    · simp only [h5, if_true]
      exact h6
    · simp only [h5, Bool.false_eq_true, if_false]
      exact ⟨fun f _ => hF f, h6⟩

def OpI (F : Fence) (n : Nat) (P : Program) (l : List Oper) (Q : Exit → Act → World → Prop) (o : Oper) (a : Act) (w : World) (K : Act → World → Prop) : Prop :=
  (Region.wanted o (yielded l.toArray a.tmps) = true ∧ o.wpIn F n P a w K Q) ∨ (Region.wanted o (yielded l.toArray a.tmps) = false ∧ K (a.put o.dst undef) w)
theorem OpI.plain {l : List Oper} {o : Oper} {a : Act} {w : World} {K : Act → World → Prop} (hg : o.guard = none) (h : o.wpIn F n P a w K Q) : OpI F n P l Q o a w K := .inl ⟨by unfold Region.wanted; rw [hg], h⟩
theorem OpI.want {l : List Oper} {o : Oper} {a : Act} {w : World} {K : Act → World → Prop} {j d : Nat} {b : Bool} (hg : o.guard = some (j, b)) (hd : (l[j]?).bind (·.dst) = some d) (hs : d < a.tmps.size) (hv : a.tmps.getD d undef = .bool b) (h : o.wpIn F n P a w K Q) : OpI F n P l Q o a w K := by
  refine .inl ⟨?_, h⟩
  have ht : a.tmps[d]? = some (.bool b) := by
    rw [Array.getElem?_eq_getElem hs]
    simpa [Array.getD, hs] using hv
  unfold Region.wanted yielded
  rw [hg]
  simp [hd, ht]
theorem OpI.skip {l : List Oper} {o : Oper} {a : Act} {w : World} {K : Act → World → Prop} {j d : Nat} {b : Bool} (hg : o.guard = some (j, b)) (hd : (l[j]?).bind (·.dst) = some d) (hs : d < a.tmps.size) (hv : a.tmps.getD d undef = .bool (!b)) (h : K (a.put o.dst undef) w) : OpI F n P l Q o a w K := by
  refine .inr ⟨?_, h⟩
  have ht : a.tmps[d]? = some (.bool (!b)) := by
    rw [Array.getElem?_eq_getElem hs]
    simpa [Array.getD, hs] using hv
  unfold Region.wanted yielded
  rw [hg]
  cases b <;> simp [hd, ht]
theorem wpIn_flowG {l : List Oper} {id : Nat} (hF : ∀ f, F.fn f) (fin : Nat) (a0 : Act) (w0 : World) (hm : P.follows .mixedOrders = true) (hac : acycB l.toArray = true) (hfin : finC l fin a0.tmps.size = true) {f : Oper} (hf : l[fin]? = some f)
    (Rr : Nat → Value → World → Prop) (hmono : ∀ i v w w', Rr i v w → Below w.heap.size w w' → Rr i v w')
    (hop : ∀ i o, l[i]? = some o → i ≠ fin → ∀ a w, Below w0.heap.size w0 w → a.tmps.size = a0.tmps.size → (∀ t, wrB l t = false → a.tmps.getD t undef = a0.tmps.getD t undef) → (∀ j oj d, l[j]? = some oj → oj.dst = some d → (∃ e ∈ o.after, Region.binds .any e = true ∧ e.on = j) → Rr j (a.tmps.getD d undef) w) →
      ∀ K : Act → World → Prop, (∀ v w', Below w.heap.size w w' → Rr i v w' → K (a.put o.dst v) w') → OpI F n P l Q o a w K)
    (hlast : ∀ a w, Below w0.heap.size w0 w → a.defers = a0.defers → a.tmps.size = a0.tmps.size → (∀ t, wrB l t = false → a.tmps.getD t undef = a0.tmps.getD t undef) → (∀ j oj d, l[j]? = some oj → j ≠ fin → oj.dst = some d → Rr j (a.tmps.getD d undef) w) →
      ∀ K : Act → World → Prop, (∀ a' w', Q .normal a' w' → K a' w') → OpI F n P l Q f a w K) : (Code.region id l.toArray true).wpIn F n P Q a0 w0 := by
  have hacyc := acyc_of (ops := l.toArray) hac
  refine wpIn_region_any hm (wpAnyIn_symG hF hacyc (fun D a w => ((∀ j, j < l.length → D j = true) ∧ Q .normal a w) ∨ (D fin = false ∧ a.defers = a0.defers ∧ a.tmps.size = a0.tmps.size ∧ Below w0.heap.size w0 w ∧ (∀ t, wrB l t = false → a.tmps.getD t undef = a0.tmps.getD t undef) ∧ (∀ j oj, l[j]? = some oj → D j = true → ∀ e ∈ oj.after, Region.binds .any e = true → D e.on = true) ∧ ∀ j oj d, l[j]? = some oj → D j = true → oj.dst = some d → Rr j (a.tmps.getD d undef) w)) ?_ ?_ _ _ _ _ (by simp) ?_ ?_)
  · intro D a w hI i o ho hD hdep K hK
    have ho : l[i]? = some o := by simpa using ho
    rcases hI with ⟨h1, _⟩ | ⟨h1, hdf, hsz, hb, hsl, hcl, hr⟩
    · rw [h1 i (List.getElem?_eq_some_iff.1 ho).1] at hD; cases hD
    · by_cases hi : i = fin
      · subst hi
        rw [hf] at ho
        cases ho
        have hall : ∀ j, j < l.length → j ≠ i → D j = true := fun j hj hne => by
          obtain ⟨h3, _⟩ := finC_at hfin (List.getElem?_eq_getElem hj) hne
          cases hk : l.length with
          | zero => omega
          | succ k =>
            rw [hk] at h3
            unfold rch at h3
            rw [hf] at h3
            obtain ⟨e, he, h4⟩ := Array.any_eq_true'.1 h3
            simp only [Bool.and_eq_true, Bool.or_eq_true, beq_iff_eq] at h4
            rcases h4.2 with h5 | h5
            · rw [← h5]; exact hdep e he h4.1
            · exact rch_of hcl k e.on j h5 (hdep e he h4.1)
        refine hlast a w hb hdf hsz hsl (fun j oj d hj hne hd => hr j oj d hj (hall j (List.getElem?_eq_some_iff.1 hj).1 hne) hd) K (fun a' w' hq => hK a' w' (.inl ⟨fun j hj => ?_, hq⟩))
        by_cases hji : j = i
        · rw [hji]; exact add1_eq
        · rw [add1_ne hji]; exact hall j hj hji
      · obtain ⟨_, d, hd, hdn, hap⟩ := finC_at hfin ho hi
        have hds : d < a.tmps.size := by rw [hsz]; exact hdn
        refine hop i o ho hi a w hb hsz hsl (fun j oj d' hj hd' ⟨e, he, h3, h4⟩ => hr j oj d' hj (by rw [← h4]; exact hdep e he h3) hd') K (fun v w' hb' hR => hK _ _ (.inr ⟨?_, ?_, ?_, ?_, ?_, ?_, ?_⟩))
        · rw [add1_ne (fun e => hi e.symm)]; exact h1
        · rw [put_df]; exact hdf
        · rw [put_sz]; exact hsz
        · exact hb.trans (hb'.mono hb.size)
        · intro t ht
          rw [hd, put_of hds (fun e => by
            subst e
            have : wrB l t = true := List.any_eq_true.2 ⟨o, List.mem_of_getElem? ho, by simp [hd]⟩
            rw [this] at ht; cases ht)]
          exact hsl t ht
        · intro j oj hj hDj e he h3
          by_cases hji : j = i
          · subst hji
            rw [ho] at hj
            cases hj
            exact add1_mono (hdep e he h3)
          · rw [add1_ne hji] at hDj
            exact add1_mono (hcl j oj hj hDj e he h3)
        · intro j oj d' hj hDj hd'
          by_cases hji : j = i
          · subst hji
            rw [ho] at hj
            cases hj
            rw [hd] at hd'
            cases hd'
            rw [hd, put_at hds]
            exact hR
          · rw [add1_ne hji] at hDj
            rw [hd, put_of hds (fun e => hap j oj hj hji (by rw [hd', e]))]
            exact hmono _ _ _ _ (hr j oj d' hj hDj hd') hb'
  · intro D a w hI hall
    rcases hI with ⟨_, h⟩ | ⟨h1, _⟩
    · exact h
    · rw [hall fin (by simpa using (List.getElem?_eq_some_iff.1 hf).1)] at h1; cases h1
  · exact Nat.le_trans (List.length_filter_le _ _) (by simp)
  · have e : (fun i => (Array.replicate l.toArray.size false).getD i false) = fun _ => false := by
      funext i
      by_cases h : i < l.toArray.size <;> simp [Array.getD]
    rw [e]
    exact .inr ⟨rfl, rfl, rfl, (Below.refl _ _).drew, fun _ _ => rfl, (fun _ _ _ h => absurd h (by simp)), (fun _ _ _ _ h => absurd h (by simp))⟩
end
section
variable {F : Fence} {n : Nat} {P : Program} {Q : Exit → Act → World → Prop}
theorem wpIn_val {o : Oper} {a : Act} {w w' : World} {K : Act → World → Prop} {v : Value} (hF : ∀ f, F.fn f) (hd : ∀ c, o.op ≠ .defer c) (h : (execOp a.eval o).run P w = .ok (.value v) w') (hk : K (a.put o.dst v) w') : o.wpIn F n P a w K Q := by
  unfold Oper.wpIn
  refine ⟨fun f _ => hF f, ?_⟩
  rw [Oper.semAt_plain F _ _ hd, h]
  exact hk
theorem operIn_any {o : Oper} {a : Act} {w : World} {K : Act → World → Prop} (hF : ∀ f, F.fn f) (f : FuncId) (xs : Array Operand) (tys : Array TypeId) (ho : o.op = .call { callee := .value (.func f), args := xs, argTypes := tys }) (vs : Array Value) (hv : xs.map a.eval = vs) (he : ∀ w, (callFunc f vs).run P w = .ok (.enter f vs) w) (hn : F.depth.isSome = true → 1 ≤ n) {J : Value → World → Prop}
    (hc : CallsIn F (n - 1) P f vs w fun e w' => ∃ r, e = .returned r ∧ J r w') (h : ∀ r w', J r w' → K (a.put o.dst r) w') : o.wpIn F n P a w K Q := by
  have hev : a.eval (.func f) = .func (.func f) #[] #[] := rfl
  unfold Oper.wpIn
  refine ⟨fun f _ => hF f, ?_⟩
  rw [Oper.semAt_plain F _ _ (by rw [ho]; intro c hc'; cases hc')]
  unfold execOp
  simp only [ho, resolve, invoke, Sem.run_bind, hv, hev, Deferred.ofValue, Sem.run_pure, Result.andThen_ok, Array.append_empty, Array.empty_append, he, Oper.uponIn_enter]
  exact ⟨hn, hc.mono (by rintro e w' ⟨r, rfl, hJ⟩; exact h r w' hJ)⟩
end
end Go.Proofs.YtbemaloaobeblaaGreatDoor

namespace Go.Proofs.YtbemaloaobeblaaGreatDoor
open Go.RowKit Go.Shelf Go.Maps
attribute [local go_sem] Oper.semAt_some

theorem lastI_at : ∀ (L : List (List UInt8)) (k : Nat) (s : List UInt8) (i : Nat), lastI L k s = some i → k ≤ i ∧ L[i - k]? = some s
  | [], _, _, _, h => by cases h
  | x :: L, k, s, i, h => by
    unfold lastI at h
    split at h
    · rename_i j hj
      cases h
      obtain ⟨h1, h2⟩ := lastI_at L (k + 1) s _ hj
      refine ⟨by omega, ?_⟩
      rw [show i - k = (i - (k + 1)) + 1 by omega, List.getElem?_cons_succ]
      exact h2
    · split at h
      · rename_i hx
        cases h
        exact ⟨Nat.le_refl _, by rw [Nat.sub_self, hx]; rfl⟩
      · cases h
def smQ (f : T → T → Bool) (p' : List (List UInt8 × T)) (q : List UInt8 × T) : Bool := match p'.find? (fun x => x.1 == q.1) with
  | some x => f q.2 x.2
  | none => false
theorem smP_q (f : T → T → Bool) (p p' : List (List UInt8 × T)) : smP f p p' = p.all (smQ f p') := rfl
theorem smQ_none {f : T → T → Bool} {p' : List (List UInt8 × T)} {q : List UInt8 × T} (h : lastI (p'.map (·.1)) 0 q.1 = none) : smQ f p' q = false := by
  have h1 := lastI_none.1 h
  unfold smQ
  rw [List.find?_eq_none.2 (fun x hx => by
    intro e
    have e : x.1 = q.1 := by simpa using e
    exact h1 (e ▸ List.mem_map_of_mem hx))]
theorem smQ_some {f : T → T → Bool} {p' : List (List UInt8 × T)} {q : List UInt8 × T} {j : Nat} (hn : (p'.map (·.1)).Nodup) (h : lastI (p'.map (·.1)) 0 q.1 = some j) : ∃ x, p'[j]? = some x ∧ smQ f p' q = f q.2 x.2 := by
  obtain ⟨_, h1⟩ := lastI_at _ _ _ _ h
  rw [Nat.sub_zero, List.getElem?_map] at h1
  cases hx : p'[j]? with
  | none => rw [hx] at h1; cases h1
  | some x =>
    rw [hx] at h1
    have e : x.1 = q.1 := by simpa using h1
    refine ⟨x, rfl, ?_⟩
    unfold smQ
    rw [← e, find_nd hn (List.mem_of_getElem? hx)]
structure Pb (w : World) (c c' : Array Value) (bm mb mn : Nat) (D : DataW Unit) (W : World) : Prop where
  bw : Below w.heap.size w W
  b2 : W.heap[w.heap.size]? = some (.cells c 28 (0, 0))
  b3 : W.heap[w.heap.size + 1]? = some (.cells c' 28 (0, 0))
  b4 : W.heap[w.heap.size + 2]? = some (.cells #[.bool false] 4 (0, 0))
  b5 : W.heap[bm]? = some (.cells #[.map (some mb)] 105 (0, 0))
  mp : W.ownsMap Tryz.prog 9 (plainElem Tryz.prog 3) mb mn D
theorem Pb.later {w W W' : World} {c c' : Array Value} {bm mb mn : Nat} {D : DataW Unit} (h : Pb w c c' bm mb mn D W) (k : Below W.heap.size W W') : Pb w c c' bm mb mn D W' :=
  ⟨h.bw.trans (k.mono h.bw.size), (k.block _ (Array.getElem?_eq_some_iff.1 h.b2).1).trans h.b2, (k.block _ (Array.getElem?_eq_some_iff.1 h.b3).1).trans h.b3, (k.block _ (Array.getElem?_eq_some_iff.1 h.b4).1).trans h.b4, (k.block _ (Array.getElem?_eq_some_iff.1 h.b5).1).trans h.b5, map_same h.mp (k.block _ h.mp.lt)⟩
theorem Pb.own {w W W' : World} {c c' : Array Value} {bm mb mn B : Nat} {D : DataW Unit} {row : Option Nat} (h : Pb w c c' bm mb mn D W) (hg : W.grownBy W' row) (hr : ∀ r, row = some r → B ≤ r) (h1 : w.heap.size + 3 ≤ B) (h2 : bm < B) (h3 : mb < B) : Pb w c c' bm mb mn D W' := by
  have ne : ∀ j, j < B → some j ≠ row := fun j hj e => by have := hr j e.symm; omega
  exact ⟨⟨hg.os.trans h.bw.os, hg.tape.trans h.bw.tape, hg.output.trans h.bw.output, Nat.le_trans h.bw.size hg.size, fun j hj => (hg.block j (Nat.lt_of_lt_of_le hj h.bw.size) (ne j (by omega))).trans (h.bw.block j hj)⟩, (hg.block _ (Array.getElem?_eq_some_iff.1 h.b2).1 (ne _ (by omega))).trans h.b2, (hg.block _ (Array.getElem?_eq_some_iff.1 h.b3).1 (ne _ (by omega))).trans h.b3, (hg.block _ (Array.getElem?_eq_some_iff.1 h.b4).1 (ne _ (by omega))).trans h.b4, (hg.block _ (Array.getElem?_eq_some_iff.1 h.b5).1 (ne _ h2)).trans h.b5, map_same h.mp (hg.block _ h.mp.lt (ne _ h3))⟩
set_option maxRecDepth 100000 in
set_option maxHeartbeats 16000000 in
theorem smPr_in {n h h' : Nat} {F G' : Nat → Prop} {w : World} {k i : Int} {s : List UInt8} {qs p' : List (List UInt8 × T)} {sl sl' : Value} {pa pa' : Option Addr} {pc pc' : Nat} {cp' xp : List (List Value)} (ih : qs ≠ [] → Mok n) (hxq : xp.length = qs.length)
    (hg : ∀ q ∈ qs, gd n q.2 = true) (hg' : ∀ q ∈ p', gd n q.2 = true) (hndp : (p'.map (·.1)).Nodup) (hh : ∀ q ∈ qs, hgt h q.2) (hs' : ∀ q ∈ p', q.1.length ≤ 9223372036854775807 ∧ sbd h' q.2) (hh' : ∀ q ∈ p', hgt h' q.2) (hb' : cp'.length ≤ 1000000) (hqs : ∀ q ∈ qs, q.1.length ≤ 9223372036854775807 ∧ sbd h q.2)
    (r' : RwA G' w Pt 6 (.slice pa' cp'.length pc') cp') (hl' : cp'.length = p'.length)
    (hv : ∀ (j : Nat) (q : List UInt8 × T) (c : List Value), qs[j]? = some q → xp[j]? = some c → PA F w q c ∧ c.length = 6) (hv' : ∀ (j : Nat) (q : List UInt8 × T) (c : List Value), p'[j]? = some q → cp'[j]? = some c → PA G' w q c)
    (hseq : ∀ W bx, Below w.heap.size w W → W.heap[bx]? = some (.cells #[.int .i64 k, .int .i64 i, .string (st s), sl, .slice pa cp'.length pc] 28 (0, 0)) → SeqY 77 #[.pointer (some ⟨bx, 0, none⟩)] (xp.map hnd) (fun j => j < w.heap.size ∨ j = bx) W) :
    CallsIn Fence.wide 5 Tryz.prog 76 #[.agg #[.int .i64 k, .int .i64 i, .string (st s), sl, .slice pa cp'.length pc], .agg #[.int .i64 k, .int .i64 i, .string (st s), sl', .slice pa' cp'.length pc']] w fun e w' => e = .returned (.bool (qs.all (smQ (smB (n + 1)) p'))) ∧ Below w.heap.size w w' := by
  obtain ⟨A, hA⟩ : ∃ A, Hid (A = qs.all (smQ (smB (n + 1)) p')) := ⟨_, hide1 rfl⟩
  rw [← hA.out]
  have hnmo : ∀ c ∈ cp', c.all (·.oneCell') = true := fun x hx => by
    obtain ⟨j, hj, rfl⟩ := List.mem_iff_getElem.1 hx
    have hj2 : j < p'.length := by omega
    obtain ⟨g1, g2⟩ := hv' j _ _ (List.getElem?_eq_getElem hj2) (List.getElem?_eq_getElem hj)
    have g3 := g2.one
    generalize cp'[j] = x at *
    cases x with
    | nil => cases g1
    | cons a b =>
      simp at g1
      subst g1
      simpa [Value.oneCell'] using g3
  have hna : NmA G' w (.slice pa' cp'.length pc') cp' (p'.map (·.1)) := ⟨r', by simp [hl'], fun j c s' h1 h2 => by
      rw [List.getElem?_map] at h2
      cases hq : p'[j]? with
      | none => rw [hq] at h2; cases h2
      | some q =>
        rw [hq] at h2
        cases h2
        exact (hv' j q c hq h1).1, fun s' hs1 => by
      obtain ⟨q, hq, rfl⟩ := List.mem_map.1 hs1
      exact (hs' q hq).1, hnmo⟩
  refine callsIn_of_wp_marks Tryz.func76 rfl trivial ?_ rfl
  simp only [Tryz.ntmps76, List.size_toArray, List.length_cons, List.length_nil, Nat.reduceAdd, Nat.reduceSub, Array.replicate_succ, Array.replicate_zero, List.push_toArray, List.append_toArray, List.nil_append, List.cons_append]
  obtain ⟨w1, hw1⟩ : ∃ w1, w1 = ((w.alloc (.cells #[.int .i64 k, .int .i64 i, .string (st s), sl, .slice pa cp'.length pc] 28)).alloc (.cells #[.int .i64 k, .int .i64 i, .string (st s), sl', .slice pa' cp'.length pc'] 28)).alloc (.cells #[.bool false] 4) := ⟨_, rfl⟩
  have hb1 : Below w.heap.size w w1 := by rw [hw1]; exact blw_al (blw_al (blw_al (Below.refl _ _) (Nat.le_refl _) _) (by simp) _) (by simp; omega) _
  have hs1 : w1.heap.size = w.heap.size + 3 := by rw [hw1]; simp
  have r0 : w1.heap[w.heap.size]? = some (.cells #[.int .i64 k, .int .i64 i, .string (st s), sl, .slice pa cp'.length pc] 28 (0, 0)) := by
    rw [hw1]
    show (((w.heap.push _).push _).push _)[w.heap.size]? = _
    rw [Array.getElem?_push, if_neg (by simp; omega), Array.getElem?_push, if_neg (by simp), Array.getElem?_push, if_pos (by simp)]
  have r1 : w1.heap[w.heap.size + 1]? = some (.cells #[.int .i64 k, .int .i64 i, .string (st s), sl', .slice pa' cp'.length pc'] 28 (0, 0)) := by
    rw [hw1]
    show (((w.heap.push _).push _).push _)[w.heap.size + 1]? = _
    rw [Array.getElem?_push, if_neg (by simp), Array.getElem?_push, if_pos (by simp)]
  have r2 : w1.heap[w.heap.size + 2]? = some (.cells #[.bool false] 4 (0, 0)) := by
    rw [hw1]
    show (((w.heap.push _).push _).push _)[w.heap.size + 2]? = _
    rw [Array.getElem?_push, if_pos (by simp)]
  have hna1 : NmA G' w1 (.slice pa' cp'.length pc') cp' (p'.map (·.1)) := ⟨hna.rw.frame (fun j _ hj => hb1.block j hj) (fun _ h _ => h), hna.ln, hna.nm, hna.sm, hna.on⟩
  have hpl := places_d hna1 (by omega)
  replace hv := hide1 hv
  replace hv' := hide1 hv'
  replace hh := hide1 hh
  replace hh' := hide1 hh'
  replace hs' := hide1 hs'
  replace hg := hide1 hg
  replace hg' := hide1 hg'
  replace hl' := hide1 hl'
  replace hxq := hide1 hxq
  replace hseq := hide1 hseq
  replace hqs := hide1 hqs
  replace hs1 := hide1 hs1
  replace hb1 := hide1 hb1
  replace r0 := hide1 r0
  replace r1 := hide1 r1
  replace r2 := hide1 r2
  clear hna hna1
  gi_wp2
  rw [← hw1]
  refine ⟨trivial, (callsIn_wide.2 hpl).mono ?_⟩
  rintro e w2 ⟨mb, D, mn, rfl, b2, hmb, hmo, hmi⟩
  obtain ⟨w3, hw3⟩ : ∃ w3, w3 = w2.alloc (.cells #[.map (some mb)] 105) := ⟨_, rfl⟩
  have hb3 : Below w2.heap.size w2 w3 := by rw [hw3]; exact below_al _
  have hs3 : w3.heap.size = w2.heap.size + 1 := by rw [hw3]; simp
  have m3 : w3.heap[w2.heap.size]? = some (.cells #[.map (some mb)] 105 (0, 0)) := by rw [hw3]; exact new_at _ _ _
  have hs2 := b2.size
  have hb13 := b2.trans (hb3.mono b2.size)
  have P3 : Pb w #[.int .i64 k, .int .i64 i, .string (st s), sl, .slice pa cp'.length pc] #[.int .i64 k, .int .i64 i, .string (st s), sl', .slice pa' cp'.length pc'] w2.heap.size mb mn D w3 := by
    have f := fun {j : Nat} {o : Obj} (h : w1.heap[j]? = some o) => (hb13.block j (Array.getElem?_eq_some_iff.1 h).1).trans h
    exact ⟨hb1.out.trans (hb13.mono hb1.out.size), f r0.out, f r1.out, f r2.out, m3, map_same hmo (hb3.block _ hmo.lt)⟩
  have l0 : w3.cell? ⟨w.heap.size, 0, none⟩ = some (.int .i64 k) := by simp only [World.cell?, P3.b2]; rfl
  have l1 : w3.cell? ⟨w.heap.size, 1, none⟩ = some (.int .i64 i) := by simp only [World.cell?, P3.b2]; rfl
  have l2 : w3.cell? ⟨w.heap.size, 2, none⟩ = some (.string (st s)) := by simp only [World.cell?, P3.b2]; rfl
  have l3 : w3.cell? ⟨w.heap.size, 3, none⟩ = some sl := by simp only [World.cell?, P3.b2]; rfl
  have l4 : w3.cell? ⟨w.heap.size, 4, none⟩ = some (.slice pa cp'.length pc) := by simp only [World.cell?, P3.b2]; rfl
  have hm0 : mb < w2.heap.size := hmo.lt
  replace P3 := hide1 P3
  replace hmi := hide1 hmi
  replace hs3 := hide1 hs3
  rw [hw3] at l0 l1 l2 l3 l4
  have hs1' := hs1.out
  clear hpl hw1 r0 r1 r2 hmo b2 m3 hb3 hb13
  gi_wp2
  rw [← hw3]
  clear l0 l1 l2 l3 l4
  refine ⟨trivial, (callsIn_wide.2 (pairs_d _ _)).mono ?_⟩
  rintro e W1 ⟨rfl, rfl⟩
  have gW := below_al (w := w3) (.cells #[.int .i64 k, .int .i64 i, .string (st s), sl, .slice pa cp'.length pc] 28)
  have hbx := new_at w3 #[.int .i64 k, .int .i64 i, .string (st s), sl, .slice pa cp'.length pc] 28
  have hsz : (w3.alloc (.cells #[.int .i64 k, .int .i64 i, .string (st s), sl, .slice pa cp'.length pc] 28)).heap.size = w3.heap.size + 1 := by simp
  have hPW := P3.out.later gW
  have hsq := hseq.out _ _ hPW.bw hbx
  gi_wp2
  rw [← hw3]
  generalize (w3.alloc (.cells #[.int .i64 k, .int .i64 i, .string (st s), sl, .slice pa cp'.length pc] 28)) = W0 at *
  have hs3' := hs3.out
  rw [hs3'] at hbx hsq hsz
  clear hs3 P3 hw3 gW
  refine range_y (w := W0) (gf := 77) (lb := #[.pointer (some ⟨w2.heap.size + 1, 0, none⟩)]) rfl (fun _ _ => by kernel_rfl) hsq (fun j hj => by rw [hsz]; rcases hj with hj | hj <;> omega)
    (fun kk W => Pb w #[.int .i64 k, .int .i64 i, .string (st s), sl, .slice pa cp'.length pc] #[.int .i64 k, .int .i64 i, .string (st s), sl', .slice pa' cp'.length pc'] w2.heap.size mb mn D W ∧ (qs.take kk).all (smQ (smB (n + 1)) p') = true)
    (fun c _ W => c = .ret ∧ qs.all (smQ (smB (n + 1)) p') = false ∧ Pb w #[.int .i64 k, .int .i64 i, .string (st s), sl, .slice pa cp'.length pc] #[.int .i64 k, .int .i64 i, .string (st s), sl', .slice pa' cp'.length pc'] w2.heap.size mb mn D W) ?hI ?hIx ⟨hPW, rfl⟩ ?round ?done ?stop
  case hI =>
    intro kk A B row h hg hr
    exact ⟨h.1.own (B := W0.heap.size) hg (fun r e => (hr r e).1) (by omega) (by omega) (by omega), h.2⟩
  case hIx =>
    rintro c kk A B row ⟨hc, h1, h4⟩ hg hr
    exact ⟨hc, h1, h4.own (B := W0.heap.size) hg (fun r e => (hr r e).1) (by omega) (by omega) (by omega)⟩
  case round =>
    intro lq kk hk W Kq hz hI hK
    rw [hnd_len] at hk
    obtain ⟨x, hx⟩ : ∃ x, xp[kk]? = some x := ⟨_, List.getElem?_eq_getElem hk⟩
    obtain ⟨q, hqk⟩ : ∃ q, qs[kk]? = some q := ⟨_, List.getElem?_eq_getElem (by have := hxq.out; omega)⟩
    obtain ⟨hpa, hx6⟩ := hv.out kk q x hqk hx
    have hhg := hh.out q (List.mem_of_getElem? hqk)
    have hgq := hg.out q (List.mem_of_getElem? hqk)
    obtain ⟨hsq1, hsb1⟩ := hqs.out q (List.mem_of_getElem? hqk)
    have hit : (xp.map hnd)[kk]'(by rw [hnd_len]; exact hk) = hnd x := by
      rw [List.getElem_map]
      congr 1
      have := List.getElem?_eq_getElem hk
      rw [hx] at this
      exact (Option.some.inj this).symm
    rw [hit]
    obtain ⟨x0, x1, x2, x3, x4, x5, rfl⟩ := arr6 hx6
    have hx0 : x0 = .string (st q.1) := by simpa using hpa.1
    subst hx0
    have hva : VA F w q.2 [x1, x2, x3, x4, x5] := hpa.2
    have hon := hva.one
    simp only [hnd, List.headD_cons, List.tail_cons]
    have hr7 : (W.alloc (.cells #[.int .i64 0, .int .i64 0, .string ⟨#[]⟩, .slice none 0 0, .slice none 0 0] 28)).heap[W.heap.size]? = some (.cells #[.int .i64 0, .int .i64 0, .string ⟨#[]⟩, .slice none 0 0, .slice none 0 0] 28 (0, 0)) := by
      show (W.heap.push _)[W.heap.size]? = _
      rw [Array.getElem?_push, if_pos rfl]
    have h7 := setRow_heap (W.alloc (.cells #[.int .i64 0, .int .i64 0, .string ⟨#[]⟩, .slice none 0 0, .slice none 0 0] 28)) W.heap.size _ #[x1, x2, x3, x4, x5] _ _ hr7
    have hal : ∀ j, j < W.heap.size → ((W.alloc (.cells #[.int .i64 0, .int .i64 0, .string ⟨#[]⟩, .slice none 0 0, .slice none 0 0] 28)).setRow W.heap.size #[x1, x2, x3, x4, x5]).heap[j]? = W.heap[j]? := fun j hj => (setRow_other _ _ j _ (by omega)).trans (by
      show (W.heap.push _)[j]? = _
      rw [Array.getElem?_push, if_neg (by omega)])
    have hb7 : Below W.heap.size W ((W.alloc (.cells #[.int .i64 0, .int .i64 0, .string ⟨#[]⟩, .slice none 0 0, .slice none 0 0] 28)).setRow W.heap.size #[x1, x2, x3, x4, x5]) := ⟨rfl, rfl, rfl, by simp [World.setRow], hal⟩
    have hs7 : ((W.alloc (.cells #[.int .i64 0, .int .i64 0, .string ⟨#[]⟩, .slice none 0 0, .slice none 0 0] 28)).setRow W.heap.size #[x1, x2, x3, x4, x5]).heap.size = W.heap.size + 1 := by simp [World.setRow]
    have hf := all_snoc hqk hI.2
    replace hon := hide1 hon
    replace hva := hide1 hva
    clear hit hx hpa hx6 hal
    gi_wp2_with (refine wpListIn_str rfl 28 (.tmp 8) (.tmp 27) rfl W.heap.size #[x1, x2, x3, x4, x5] rfl rfl 28 _ hr7 (by kernel_rfl) rfl (by simpa using hon.out) ?_)
    refine hK _ _ hb7 ?_
    rintro W2 hsame hs2 ⟨hG2, hf2⟩
    have h72 := (hsame W.heap.size (by omega)).trans h7
    have hsz2 : W0.heap.size + 3 ≤ W2.heap.size := by rw [hs2, hs7]; omega
    have c5 : W2.cell? ⟨w2.heap.size, 0, none⟩ = some (.map (some mb)) := by simp only [World.cell?, hG2.b5]; rfl
    have hmp := hG2.mp
    have hlk := hmi.out.is q.1
    replace hf := hide1 hf
    replace hI := hide1 hI
    replace hG2 := hide1 hG2
    replace hlk := hide1 hlk
    clear hK hsame h7 hf2
    have stop : ∀ (W4 : World) (a4 : Act), Below W2.heap.size W2 W4 → smQ (smB (n + 1)) p' q = false → Hid (outX W0.heap.size (fun j => j < w.heap.size ∨ j = w2.heap.size + 1) (fun kk W => Pb w #[.int .i64 k, .int .i64 i, .string (st s), sl, .slice pa cp'.length pc] #[.int .i64 k, .int .i64 i, .string (st s), sl', .slice pa' cp'.length pc'] w2.heap.size mb mn D W ∧ (qs.take kk).all (smQ (smB (n + 1)) p') = true) (fun c _ W => c = .ret ∧ qs.all (smQ (smB (n + 1)) p') = false ∧ Pb w #[.int .i64 k, .int .i64 i, .string (st s), sl, .slice pa cp'.length pc] #[.int .i64 k, .int .i64 i, .string (st s), sl', .slice pa' cp'.length pc'] w2.heap.size mb mn D W) kk W2 .ret a4 (W4.setCell ⟨w.heap.size + 2, 0, none⟩ (.bool false))) := fun W4 a4 b4 hbad => hide1 (by
      have g := hG2.out.later b4
      have hw5 : W4.setCell ⟨w.heap.size + 2, 0, none⟩ (.bool false) = W4.setRow (w.heap.size + 2) #[.bool false] := by
        rw [setCell_eq_setRow _ (w.heap.size + 2) 0 _ _ (0, 0) _ g.b4]; rfl
      rw [hw5]
      refine ⟨(Kx.below b4).row _ (by omega) (by omega), rfl, all_of (hf.out.trans hbad), blw_own g.bw (by omega) _, (setRow_other _ _ _ _ (by omega)).trans g.b2, (setRow_other _ _ _ _ (by omega)).trans g.b3, setRow_heap _ _ _ _ _ _ g.b4, (setRow_other _ _ _ _ (by omega)).trans g.b5, map_same g.mp (setRow_other _ _ _ _ (by omega))⟩)
    replace stop := hide1 stop
    gi_wp2_with (refine wpListIn_lookup_own_ok_int W2 rfl _ _ 105 rfl 9 3 .i64 lawS Tryz.underlying105 Tryz.underlying3 (by kernel_rfl) mb mn D rfl hmp (.string (st q.1)) (.string q.1) rfl (keyS hsq1) ?_; intro cc hcc _)
    cases hla : lastI (p'.map (·.1)) 0 q.1 with
    | none =>
      have hhas : Maps.has D (.string q.1) = false := has_false_of_atKey (fun z => by rw [hlk.out z, hla])
      rw [hhas]
      have hbad := smQ_none (f := smB (n + 1)) hla
      clear hcc hhas
      gi_wp2
      refine wpIn_flowG (fun _ => trivial) 12 _ _ (by kernel_rfl) (by kernel_rfl) (by kernel_rfl) rfl (fun j v _ => v = ([(.bool false), (.bool true), (.bool true), undef, undef, undef, undef, undef, undef, undef, undef, undef, (.bool true)] : List Value).getD j undef) (fun _ _ _ _ h _ => h) ?_ ?_
      · intro j op hop hj a wa hwa hsz hsl hdep K hK
        match j, hop with
        | 0, hop =>
          obtain rfl := Option.some.inj hop
          have p10 : a.tmps.getD 10 undef = (.bool false) := hsl 10 rfl
          exact .plain rfl (wpIn_val (fun _ => trivial) (fun c h => by cases h) (w' := wa) (v := (.bool false)) (by simp only [execOp, Act.eval]; rw [show a.tmps.getD 10 undef = _ from p10]; rfl) (hK _ _ (Below.refl _ _) rfl))
        | 1, hop =>
          obtain rfl := Option.some.inj hop
          have t0 : a.tmps.getD 34 undef = (.bool false) := hdep 0 _ 34 rfl rfl ⟨⟨0, .data⟩, by simp, rfl, rfl⟩
          exact .plain rfl (wpIn_val (fun _ => trivial) (fun c h => by cases h) (w' := wa) (v := (.bool true)) (by simp only [execOp, Act.eval]; rw [show a.tmps.getD 34 undef = _ from t0]; kernel_rfl) (hK _ _ (Below.refl _ _) rfl))
        | 2, hop =>
          obtain rfl := Option.some.inj hop
          have t1 : a.tmps.getD 35 undef = (.bool true) := hdep 1 _ 35 rfl rfl ⟨⟨1, .data⟩, by simp, rfl, rfl⟩
          exact .plain rfl (wpIn_val (fun _ => trivial) (fun c h => by cases h) (w' := wa) (v := (.bool true)) (by simp only [execOp, Act.eval]; rw [show a.tmps.getD 35 undef = _ from t1]; rfl) (hK _ _ (Below.refl _ _) rfl))
        | 3, hop =>
          obtain rfl := Option.some.inj hop
          have gg : a.tmps.getD 36 undef = (.bool true) := hdep 2 _ 36 rfl rfl ⟨⟨2, .guard⟩, by simp, rfl, rfl⟩
          exact .skip rfl rfl (by rw [hsz]; simp) gg (hK _ _ (Below.refl _ _) rfl)
        | 4, hop =>
          obtain rfl := Option.some.inj hop
          have gg : a.tmps.getD 36 undef = (.bool true) := hdep 2 _ 36 rfl rfl ⟨⟨2, .guard⟩, by simp, rfl, rfl⟩
          exact .skip rfl rfl (by rw [hsz]; simp) gg (hK _ _ (Below.refl _ _) rfl)
        | 5, hop =>
          obtain rfl := Option.some.inj hop
          have gg : a.tmps.getD 36 undef = (.bool true) := hdep 2 _ 36 rfl rfl ⟨⟨2, .guard⟩, by simp, rfl, rfl⟩
          exact .skip rfl rfl (by rw [hsz]; simp) gg (hK _ _ (Below.refl _ _) rfl)
        | 6, hop =>
          obtain rfl := Option.some.inj hop
          have gg : a.tmps.getD 36 undef = (.bool true) := hdep 2 _ 36 rfl rfl ⟨⟨2, .guard⟩, by simp, rfl, rfl⟩
          exact .skip rfl rfl (by rw [hsz]; simp) gg (hK _ _ (Below.refl _ _) rfl)
        | 7, hop =>
          obtain rfl := Option.some.inj hop
          have gg : a.tmps.getD 36 undef = (.bool true) := hdep 2 _ 36 rfl rfl ⟨⟨2, .guard⟩, by simp, rfl, rfl⟩
          exact .skip rfl rfl (by rw [hsz]; simp) gg (hK _ _ (Below.refl _ _) rfl)
        | 8, hop =>
          obtain rfl := Option.some.inj hop
          have gg : a.tmps.getD 36 undef = (.bool true) := hdep 2 _ 36 rfl rfl ⟨⟨2, .guard⟩, by simp, rfl, rfl⟩
          exact .skip rfl rfl (by rw [hsz]; simp) gg (hK _ _ (Below.refl _ _) rfl)
        | 9, hop =>
          obtain rfl := Option.some.inj hop
          have gg : a.tmps.getD 36 undef = (.bool true) := hdep 2 _ 36 rfl rfl ⟨⟨2, .guard⟩, by simp, rfl, rfl⟩
          exact .skip rfl rfl (by rw [hsz]; simp) gg (hK _ _ (Below.refl _ _) rfl)
        | 10, hop =>
          obtain rfl := Option.some.inj hop
          have gg : a.tmps.getD 36 undef = (.bool true) := hdep 2 _ 36 rfl rfl ⟨⟨2, .guard⟩, by simp, rfl, rfl⟩
          exact .skip rfl rfl (by rw [hsz]; simp) gg (hK _ _ (Below.refl _ _) rfl)
        | 11, hop =>
          obtain rfl := Option.some.inj hop
          have gg : a.tmps.getD 36 undef = (.bool true) := hdep 2 _ 36 rfl rfl ⟨⟨2, .guard⟩, by simp, rfl, rfl⟩
          exact .skip rfl rfl (by rw [hsz]; simp) gg (hK _ _ (Below.refl _ _) rfl)
        | 12, _ => exact absurd rfl hj
        | _ + 13, hop => exact absurd hop (by simp)
      · intro a wa hwa hdf hsz hsl hrr K hK
        have t2 : a.tmps.getD 36 undef = (.bool true) := hrr 2 _ 36 rfl (by decide) rfl
        have t11 : a.tmps.getD 45 undef = undef := hrr 11 _ 45 rfl (by decide) rfl
        refine .plain rfl (wpIn_val (fun _ => trivial) (fun c h => by cases h) (w' := wa) (v := (.bool true)) (by simp only [execOp, Act.eval]; rw [show a.tmps.getD 36 undef = _ from t2, show a.tmps.getD 45 undef = _ from t11]; rfl) ?_)
        refine hK _ wa ?_
        have hact := act_puts hdf hsz hsl
        clear hrr hsl hdf hsz hK t11 t2
        simp only [List.filterMap_cons, List.filterMap_nil, List.foldl_cons, List.foldl_nil] at hact
        rw [hact]
        generalize a.tmps.getD 34 undef = y34
        generalize a.tmps.getD 35 undef = y35
        generalize a.tmps.getD 36 undef = y36
        generalize a.tmps.getD 37 undef = y37
        generalize a.tmps.getD 38 undef = y38
        generalize a.tmps.getD 39 undef = y39
        generalize a.tmps.getD 40 undef = y40
        generalize a.tmps.getD 41 undef = y41
        generalize a.tmps.getD 42 undef = y42
        generalize a.tmps.getD 43 undef = y43
        generalize a.tmps.getD 44 undef = y44
        generalize a.tmps.getD 45 undef = y45
        clear hact
        simp only [Act.put, List.setIfInBounds_toArray, List.set_cons_succ, List.set_cons_zero]
        have hG3 := hG2.out.later hwa
        have c4 : wa.cell? ⟨w.heap.size + 2, 0, none⟩ = some (.bool false) := by simp only [World.cell?, hG3.b4]; rfl
        have f4 : wa.frozen? ⟨w.heap.size + 2, 0, none⟩ = false := by simp [World.frozen?, hG3.b4]
        have hfin := stop.out wa { tmps := #[], defers := [] } hwa hbad
        replace hG3 := hide1 hG3
        clear stop hbad hmp c5
        gi_wp2
        exact hfin.out
    | some jx =>
      have hhas : Maps.has D (.string q.1) = true := has_true_of_atKey (fun z => by rw [hlk.out z, hla])
      rw [hhas]
      have hcj : cc = ((jx : Nat) : Int) := by
        rw [hlk.out, hla] at hcc
        injection hcc with e
        injection e with _ e
        exact e.symm
      subst hcj
      obtain ⟨u, hu, hsm⟩ := smQ_some (f := smB (n + 1)) hndp hla
      have hjx : jx < cp'.length := by have := hl'.out; have := (List.getElem?_eq_some_iff.1 hu).1; omega
      obtain ⟨y, hy⟩ : ∃ y, cp'[jx]? = some y := ⟨_, List.getElem?_eq_getElem hjx⟩
      obtain ⟨bb, oo, cap, hve, -, hbl, hry⟩ := r'.at hy
      have hpa' : pa' = some ⟨bb, oo, none⟩ := by cases hve; rfl
      subst hpa'
      have hy6 := r'.1 y (List.mem_of_getElem? hy)
      have hpy := hv'.out jx u y hu hy
      obtain ⟨y0, y1, y2, y3, y4, y5, rfl⟩ := arr6 hy6
      have hvy : VA G' w u.2 [y1, y2, y3, y4, y5] := hpy.2
      obtain ⟨R, hR⟩ : ∃ R, Hid (R = smB (n + 1) q.2 u.2) := ⟨_, hide1 rfl⟩
      have hcs : Hid (∀ wa, Below W2.heap.size W2 wa → Calls Tryz.prog 42 #[.agg #[x1, x2, x3, x4, x5], .agg #[y1, y2, y3, y4, y5]] wa fun e w' => e = .returned (.bool R) ∧ Below wa.heap.size wa w') := hide1 fun wa hwa => by
        have g := (hG2.out.later hwa).bw
        rw [hR.out]
        exact ih (by intro e; rw [e] at hqk; cases hqk) (c := [x1, x2, x3, x4, x5]) (c' := [y1, y2, y3, y4, y5]) hgq (hg'.out u (List.mem_of_getElem? hu)) hhg (hh'.out u (List.mem_of_getElem? hu)) hsb1 (hs'.out u (List.mem_of_getElem? hu)).2 (hva.out.frame (G := F) (fun j _ hj => g.block j hj) (fun _ h _ => h)) (hvy.frame (G := G') (fun j _ hj => g.block j hj) (fun _ h _ => h))
      have hlx : Hid (∀ wa, Below W2.heap.size W2 wa → wa.rangeAt W.heap.size 0 [x1, x2, x3, x4, x5]) := hide1 fun wa hwa => rg5 ((hwa.block _ (Array.getElem?_eq_some_iff.1 h72).1).trans h72)
      have hlb : Hid (∀ wa, Below W2.heap.size W2 wa → wa.cell? ⟨w.heap.size + 1, 4, none⟩ = some (.slice (some ⟨bb, oo, none⟩) cp'.length pc')) := hide1 fun wa hwa => by
        simp only [World.cell?, (hG2.out.later hwa).b3]; rfl
      have hly : Hid (∀ wa, Below W2.heap.size W2 wa → wa.rangeAt bb (oo + jx * 6 + 1) [y1, y2, y3, y4, y5]) := hide1 fun wa hwa j v hj => by
        have h1 := hry (j + 1) v (by simpa using hj)
        rw [show oo + jx * 6 + (j + 1) = oo + jx * 6 + 1 + j by omega] at h1
        rw [World.cell?_of_block (w := w) ((hG2.out.later hwa).bw.block bb hbl)]
        exact h1
      clear hcc hhas hry hve hpy hvy
      gi_wp2
      refine wpIn_flowG (fun _ => trivial) 12 _ _ (by kernel_rfl) (by kernel_rfl) (by kernel_rfl) rfl (fun j v _ => v = ([(.bool true), (.bool false), (.bool false), (.agg #[x1, x2, x3, x4, x5]), (.pointer (some ⟨w.heap.size + 1, 4, none⟩)), (.slice (some ⟨bb, oo, none⟩) cp'.length pc'), (.int .i64 (jx : Nat)), (.pointer (some ⟨bb, oo + jx * 6, none⟩)), (.pointer (some ⟨bb, oo + jx * 6 + 1, none⟩)), (.agg #[y1, y2, y3, y4, y5]), (.bool R), (.bool (!R)), (.bool (!R))] : List Value).getD j undef) (fun _ _ _ _ h _ => h) ?_ ?_
      · intro j op hop hj a wa hwa hsz hsl hdep K hK
        match j, hop with
        | 0, hop =>
          obtain rfl := Option.some.inj hop
          have p10 : a.tmps.getD 10 undef = (.bool true) := hsl 10 rfl
          exact .plain rfl (wpIn_val (fun _ => trivial) (fun c h => by cases h) (w' := wa) (v := (.bool true)) (by simp only [execOp, Act.eval]; rw [show a.tmps.getD 10 undef = _ from p10]; rfl) (hK _ _ (Below.refl _ _) rfl))
        | 1, hop =>
          obtain rfl := Option.some.inj hop
          have t0 : a.tmps.getD 34 undef = (.bool true) := hdep 0 _ 34 rfl rfl ⟨⟨0, .data⟩, by simp, rfl, rfl⟩
          exact .plain rfl (wpIn_val (fun _ => trivial) (fun c h => by cases h) (w' := wa) (v := (.bool false)) (by simp only [execOp, Act.eval]; rw [show a.tmps.getD 34 undef = _ from t0]; kernel_rfl) (hK _ _ (Below.refl _ _) rfl))
        | 2, hop =>
          obtain rfl := Option.some.inj hop
          have t1 : a.tmps.getD 35 undef = (.bool false) := hdep 1 _ 35 rfl rfl ⟨⟨1, .data⟩, by simp, rfl, rfl⟩
          exact .plain rfl (wpIn_val (fun _ => trivial) (fun c h => by cases h) (w' := wa) (v := (.bool false)) (by simp only [execOp, Act.eval]; rw [show a.tmps.getD 35 undef = _ from t1]; rfl) (hK _ _ (Below.refl _ _) rfl))
        | 3, hop =>
          obtain rfl := Option.some.inj hop
          have gg : a.tmps.getD 36 undef = (.bool false) := hdep 2 _ 36 rfl rfl ⟨⟨2, .guard⟩, by simp, rfl, rfl⟩
          have p8 : a.tmps.getD 8 undef = (.pointer (some ⟨W.heap.size, 0, none⟩)) := hsl 8 rfl
          exact .want rfl rfl (by rw [hsz]; simp) gg (wpIn_val (fun _ => trivial) (fun c h => by cases h) (w' := wa) (v := (.agg #[x1, x2, x3, x4, x5])) (by simp only [execOp, Act.eval]; rw [show a.tmps.getD 8 undef = _ from p8]; simp only [Sem.run_bind, ld_mV (hlx.out wa hwa), Result.andThen_ok, Sem.run_pure]) (hK _ _ (Below.refl _ _) rfl))
        | 4, hop =>
          obtain rfl := Option.some.inj hop
          have gg : a.tmps.getD 36 undef = (.bool false) := hdep 2 _ 36 rfl rfl ⟨⟨2, .guard⟩, by simp, rfl, rfl⟩
          have p3 : a.tmps.getD 3 undef = (.pointer (some ⟨w.heap.size + 1, 0, none⟩)) := hsl 3 rfl
          exact .want rfl rfl (by rw [hsz]; simp) gg (wpIn_val (fun _ => trivial) (fun c h => by cases h) (w' := wa) (v := (.pointer (some ⟨w.heap.size + 1, 4, none⟩))) (by simp only [execOp, Act.eval]; rw [show a.tmps.getD 3 undef = _ from p3]; kernel_rfl) (hK _ _ (Below.refl _ _) rfl))
        | 5, hop =>
          obtain rfl := Option.some.inj hop
          have gg : a.tmps.getD 36 undef = (.bool false) := hdep 2 _ 36 rfl rfl ⟨⟨2, .guard⟩, by simp, rfl, rfl⟩
          have t4 : a.tmps.getD 38 undef = (.pointer (some ⟨w.heap.size + 1, 4, none⟩)) := hdep 4 _ 38 rfl rfl ⟨⟨4, .data⟩, by simp, rfl, rfl⟩
          exact .want rfl rfl (by rw [hsz]; simp) gg (wpIn_val (fun _ => trivial) (fun c h => by cases h) (w' := wa) (v := (.slice (some ⟨bb, oo, none⟩) cp'.length pc')) (by simp only [execOp, Act.eval]; rw [show a.tmps.getD 38 undef = _ from t4]; simp only [Sem.run_bind, ld_sP (hlb.out wa hwa), Result.andThen_ok, Sem.run_pure]) (hK _ _ (Below.refl _ _) rfl))
        | 6, hop =>
          obtain rfl := Option.some.inj hop
          have gg : a.tmps.getD 36 undef = (.bool false) := hdep 2 _ 36 rfl rfl ⟨⟨2, .guard⟩, by simp, rfl, rfl⟩
          have p9 : a.tmps.getD 9 undef = (.int .i64 (jx : Nat)) := hsl 9 rfl
          exact .want rfl rfl (by rw [hsz]; simp) gg (wpIn_val (fun _ => trivial) (fun c h => by cases h) (w' := wa) (v := (.int .i64 (jx : Nat))) (by simp only [execOp, Act.eval]; rw [show a.tmps.getD 9 undef = _ from p9]; rfl) (hK _ _ (Below.refl _ _) rfl))
        | 7, hop =>
          obtain rfl := Option.some.inj hop
          have gg : a.tmps.getD 36 undef = (.bool false) := hdep 2 _ 36 rfl rfl ⟨⟨2, .guard⟩, by simp, rfl, rfl⟩
          have t5 : a.tmps.getD 39 undef = (.slice (some ⟨bb, oo, none⟩) cp'.length pc') := hdep 5 _ 39 rfl rfl ⟨⟨5, .data⟩, by simp, rfl, rfl⟩
          have t6 : a.tmps.getD 40 undef = (.int .i64 (jx : Nat)) := hdep 6 _ 40 rfl rfl ⟨⟨6, .data⟩, by simp, rfl, rfl⟩
          exact .want rfl rfl (by rw [hsz]; simp) gg (wpIn_val (fun _ => trivial) (fun c h => by cases h) (w' := wa) (v := (.pointer (some ⟨bb, oo + jx * 6, none⟩))) (by simp only [execOp, Act.eval]; rw [show a.tmps.getD 39 undef = _ from t5, show a.tmps.getD 40 undef = _ from t6]; simp only [Sem.run_bind, ix_oP hjx, Result.andThen_ok, Sem.run_pure]) (hK _ _ (Below.refl _ _) rfl))
        | 8, hop =>
          obtain rfl := Option.some.inj hop
          have gg : a.tmps.getD 36 undef = (.bool false) := hdep 2 _ 36 rfl rfl ⟨⟨2, .guard⟩, by simp, rfl, rfl⟩
          have t7 : a.tmps.getD 41 undef = (.pointer (some ⟨bb, oo + jx * 6, none⟩)) := hdep 7 _ 41 rfl rfl ⟨⟨7, .data⟩, by simp, rfl, rfl⟩
          exact .want rfl rfl (by rw [hsz]; simp) gg (wpIn_val (fun _ => trivial) (fun c h => by cases h) (w' := wa) (v := (.pointer (some ⟨bb, oo + jx * 6 + 1, none⟩))) (by simp only [execOp, Act.eval]; rw [show a.tmps.getD 41 undef = _ from t7]; kernel_rfl) (hK _ _ (Below.refl _ _) rfl))
        | 9, hop =>
          obtain rfl := Option.some.inj hop
          have gg : a.tmps.getD 36 undef = (.bool false) := hdep 2 _ 36 rfl rfl ⟨⟨2, .guard⟩, by simp, rfl, rfl⟩
          have t8 : a.tmps.getD 42 undef = (.pointer (some ⟨bb, oo + jx * 6 + 1, none⟩)) := hdep 8 _ 42 rfl rfl ⟨⟨8, .data⟩, by simp, rfl, rfl⟩
          exact .want rfl rfl (by rw [hsz]; simp) gg (wpIn_val (fun _ => trivial) (fun c h => by cases h) (w' := wa) (v := (.agg #[y1, y2, y3, y4, y5])) (by simp only [execOp, Act.eval]; rw [show a.tmps.getD 42 undef = _ from t8]; simp only [Sem.run_bind, ld_mV (hly.out wa hwa), Result.andThen_ok, Sem.run_pure]) (hK _ _ (Below.refl _ _) rfl))
        | 10, hop =>
          obtain rfl := Option.some.inj hop
          have gg : a.tmps.getD 36 undef = (.bool false) := hdep 2 _ 36 rfl rfl ⟨⟨2, .guard⟩, by simp, rfl, rfl⟩
          have t3 : a.tmps.getD 37 undef = (.agg #[x1, x2, x3, x4, x5]) := hdep 3 _ 37 rfl rfl ⟨⟨3, .data⟩, by simp, rfl, rfl⟩
          have t9 : a.tmps.getD 43 undef = (.agg #[y1, y2, y3, y4, y5]) := hdep 9 _ 43 rfl rfl ⟨⟨9, .data⟩, by simp, rfl, rfl⟩
          refine .want rfl rfl (by rw [hsz]; simp) gg (operIn_any (fun _ => trivial) (J := fun r w' => r = (.bool R) ∧ Below wa.heap.size wa w') 42 #[.tmp 37, .tmp 43] _ rfl #[(.agg #[x1, x2, x3, x4, x5]), (.agg #[y1, y2, y3, y4, y5])] (by simp only [List.map_toArray, List.map_cons, List.map_nil, Act.eval]; rw [show a.tmps.getD 37 undef = _ from t3, show a.tmps.getD 43 undef = _ from t9]) (fun w => by kernel_rfl) (fun h => by decide) (CallsIn.inRound lq (callsIn_wide.2 ((hcs.out wa hwa).mono fun e w' h => ⟨_, h.1, rfl, h.2⟩))) ?_)
          rintro r w' ⟨rfl, hb⟩
          exact hK _ _ hb rfl
        | 11, hop =>
          obtain rfl := Option.some.inj hop
          have gg : a.tmps.getD 36 undef = (.bool false) := hdep 2 _ 36 rfl rfl ⟨⟨2, .guard⟩, by simp, rfl, rfl⟩
          have t10 : a.tmps.getD 44 undef = (.bool R) := hdep 10 _ 44 rfl rfl ⟨⟨10, .data⟩, by simp, rfl, rfl⟩
          exact .want rfl rfl (by rw [hsz]; simp) gg (wpIn_val (fun _ => trivial) (fun c h => by cases h) (w' := wa) (v := (.bool (!R))) (by simp only [execOp, Act.eval]; rw [show a.tmps.getD 44 undef = _ from t10]; kernel_rfl) (hK _ _ (Below.refl _ _) rfl))
        | 12, _ => exact absurd rfl hj
        | _ + 13, hop => exact absurd hop (by simp)
      · intro a wa hwa hdf hsz hsl hrr K hK
        have t2 : a.tmps.getD 36 undef = (.bool false) := hrr 2 _ 36 rfl (by decide) rfl
        have t11 : a.tmps.getD 45 undef = (.bool (!R)) := hrr 11 _ 45 rfl (by decide) rfl
        refine .plain rfl (wpIn_val (fun _ => trivial) (fun c h => by cases h) (w' := wa) (v := (.bool (!R))) (by simp only [execOp, Act.eval]; rw [show a.tmps.getD 36 undef = _ from t2, show a.tmps.getD 45 undef = _ from t11]; rfl) ?_)
        refine hK _ wa ?_
        have hact := act_puts hdf hsz hsl
        clear hrr hsl hdf hsz hK t11 t2
        simp only [List.filterMap_cons, List.filterMap_nil, List.foldl_cons, List.foldl_nil] at hact
        rw [hact]
        generalize a.tmps.getD 34 undef = y34
        generalize a.tmps.getD 35 undef = y35
        generalize a.tmps.getD 36 undef = y36
        generalize a.tmps.getD 37 undef = y37
        generalize a.tmps.getD 38 undef = y38
        generalize a.tmps.getD 39 undef = y39
        generalize a.tmps.getD 40 undef = y40
        generalize a.tmps.getD 41 undef = y41
        generalize a.tmps.getD 42 undef = y42
        generalize a.tmps.getD 43 undef = y43
        generalize a.tmps.getD 44 undef = y44
        generalize a.tmps.getD 45 undef = y45
        clear hact
        simp only [Act.put, List.setIfInBounds_toArray, List.set_cons_succ, List.set_cons_zero]
        have hG3 := hG2.out.later hwa
        have c4 : wa.cell? ⟨w.heap.size + 2, 0, none⟩ = some (.bool false) := by simp only [World.cell?, hG3.b4]; rfl
        have f4 : wa.frozen? ⟨w.heap.size + 2, 0, none⟩ = false := by simp [World.frozen?, hG3.b4]
        have hnx := hf.out
        rw [hsm, ← hR.out] at hnx
        have hbad : R = false → smQ (smB (n + 1)) p' q = false := fun e => by rw [hsm, ← hR.out, e]
        clear hsm hR hcs hlx hlb hly hmp c5
        cases R with
        | false =>
          have hfin := stop.out wa { tmps := #[], defers := [] } hwa (hbad rfl)
          replace hG3 := hide1 hG3
          clear stop hbad hnx
          gi_wp2
          exact hfin.out
        | true =>
          replace hG3 := hide1 hG3
          replace hnx := hide1 hnx
          replace hwa := hide1 hwa
          clear stop hbad
          gi_wp2
          exact ⟨Kx.below hwa.out, hG3.out, hnx.out⟩
  case done =>
    rintro E W hE ⟨hGW, hf⟩ hK
    have hAt : A = true := by
      rw [hnd_len, List.take_of_length_le (by have := hxq.out; omega)] at hf
      rw [hA.out, hf]
    subst hAt
    have hne : E ≠ w.heap.size + 2 := by rintro rfl; rw [hGW.b4] at hK; cases hK
    have c5 : W.cell? ⟨w.heap.size + 2, 0, none⟩ = some (.bool false) := by simp only [World.cell?, hGW.b4]; rfl
    have f5 : W.frozen? ⟨w.heap.size + 2, 0, none⟩ = false := by simp [World.frozen?, hGW.b4]
    have hw5 : W.setCell ⟨w.heap.size + 2, 0, none⟩ (.bool true) = W.setRow (w.heap.size + 2) #[.bool true] := by
      rw [setCell_eq_setRow _ (w.heap.size + 2) 0 _ _ (0, 0) _ hGW.b4]; rfl
    have hDK : (W.setCell ⟨w.heap.size + 2, 0, none⟩ (.bool true)).heap[E]? = some (.deferred (some [])) := by
      rw [hw5]
      exact (setRow_other _ _ _ _ hne).trans hK
    have hb5 : (W.setCell ⟨w.heap.size + 2, 0, none⟩ (.bool true)).heap[w.heap.size + 2]? = some (.cells #[.bool true] 4 (0, 0)) := by
      rw [hw5]
      exact setRow_heap _ _ _ _ _ _ hGW.b4
    have hbb : Below w.heap.size w (W.setCell ⟨w.heap.size + 2, 0, none⟩ (.bool true)) := by
      rw [hw5]
      exact blw_own hGW.bw (by omega) _
    replace hDK := hide1 hDK
    replace hb5 := hide1 hb5
    replace hbb := hide1 hbb
    replace hne := hide1 hne
    clear hGW hw5 hf
    gi_wp2
    refine ⟨by simp, .inl ⟨_, _, rfl, run_takeDeferred hDK.out, ?_⟩⟩
    refine ⟨_, results_1b rfl _ rfl ((World.putObj_heap_other (fun e => hne.out e.symm)).trans hb5.out), ?_⟩
    exact ⟨rfl, blw_done hbb.out (by omega) hDK.out⟩
  case stop =>
    rintro E c kk W hE hk ⟨rfl, h1, h4⟩ hK
    have hne : w.heap.size + 2 ≠ E := by rintro rfl; rw [h4.b4] at hK; cases hK
    gi_wp2
    refine ⟨by simp, .inl ⟨_, _, rfl, run_takeDeferred hK, ?_⟩⟩
    refine ⟨_, results_1b rfl _ rfl ((World.putObj_heap_other hne).trans h4.b4), ?_⟩
    exact ⟨by rw [hA.out, h1], blw_done h4.bw (by omega) hK⟩
attribute [local go_sem] Oper.semAt_some

set_option maxRecDepth 100000 in
set_option maxHeartbeats 16000000 in
theorem smPr_ne {w : World} {k i : Int} {s : List UInt8} {sl sl' : Value} {pa pa' : Option Addr} {P P' pc pc' : Nat} (h : P ≠ P') :
    CallsIn Fence.wide 5 Tryz.prog 76 #[.agg #[.int .i64 k, .int .i64 i, .string (st s), sl, .slice pa P pc], .agg #[.int .i64 k, .int .i64 i, .string (st s), sl', .slice pa' P' pc']] w fun e w' => e = .returned (.bool false) ∧ Below w.heap.size w w' := by
  have d : (((P : Nat) : Int) == ((P' : Nat) : Int)) = false := beq_eq_false_iff_ne.2 (by omega)
  clear h
  refine callsIn_of_wp_marks Tryz.func76 rfl trivial ?_ rfl
  simp only [Tryz.ntmps76, List.size_toArray, List.length_cons, List.length_nil, Nat.reduceAdd, Nat.reduceSub, Array.replicate_succ, Array.replicate_zero, List.push_toArray, List.append_toArray, List.nil_append, List.cons_append]
  obtain ⟨w1, hw1⟩ : ∃ w1, w1 = ((w.alloc (.cells #[.int .i64 k, .int .i64 i, .string (st s), sl, .slice pa P pc] 28)).alloc (.cells #[.int .i64 k, .int .i64 i, .string (st s), sl', .slice pa' P' pc'] 28)).alloc (.cells #[.bool false] 4) := ⟨_, rfl⟩
  have hb1 : Below w.heap.size w w1 := by rw [hw1]; exact blw_al (blw_al (blw_al (Below.refl _ _) (Nat.le_refl _) _) (by simp) _) (by simp; omega) _
  have r2 : w1.heap[w.heap.size + 2]? = some (.cells #[.bool false] 4 (0, 0)) := by
    rw [hw1]
    show (((w.heap.push _).push _).push _)[w.heap.size + 2]? = _
    rw [Array.getElem?_push, if_pos (by simp)]
  replace hb1 := hide1 hb1
  replace r2 := hide1 r2
  gi_wp2
  rw [← hw1]
  first
  | exact ⟨_, results_1b rfl _ rfl r2.out, rfl, hb1.out⟩
  | (refine ⟨by simp, ?_⟩; exact ⟨_, results_1b rfl _ rfl r2.out, rfl, hb1.out⟩)
  | (refine ⟨by simp, .inr ?_⟩; exact ⟨_, results_1b rfl _ rfl r2.out, rfl, hb1.out⟩)
theorem one_pr {F : Nat → Prop} {w : World} {p : List (List UInt8 × T)} {cp : List (List Value)} (e : cp.length = p.length) (h : ∀ (j : Nat) (q : List UInt8 × T) (c : List Value), p[j]? = some q → cp[j]? = some c → PA F w q c) : ∀ c ∈ cp, c.all (·.oneCell') = true := fun x hx => by
  obtain ⟨j, hj, rfl⟩ := List.mem_iff_getElem.1 hx
  have hj2 : j < p.length := by omega
  obtain ⟨g1, g2⟩ := h j _ _ (List.getElem?_eq_getElem hj2) (List.getElem?_eq_getElem hj)
  have g3 := g2.one
  generalize cp[j] = x at *
  cases x with
  | nil => cases g1
  | cons a b =>
    simp at g1
    subst g1
    simpa [Value.oneCell'] using g3
theorem pok (n : Nat) : Pok n := by
  intro F G w k i s p p' sl sp sl' sp' cp cp' h h' ih hg hg' hnd hk hh hs hs' hh' hb hb' ho ho' r r' e e' hv hv'
  obtain ⟨pa, pc, rfl⟩ := r.slc
  obtain ⟨pa', pc', rfl⟩ := r'.slc
  refine (callsIn_wide (n := 5)).1 ?_
  by_cases hl : p.length = p'.length
  case neg =>
    rw [decide_eq_false hl, Bool.false_and]
    exact smPr_ne (by omega)
  rw [decide_eq_true hl, Bool.true_and, smP_q]
  have hcl : cp.length = cp'.length := by omega
  rw [hcl]
  refine smPr_in (F := F) (G' := G) (h := h) (h' := h') (xp := cp) ih e hg hg' hnd hh hs' hh' hb' hs r' e' (fun j q c h1 h2 => ⟨hv j q c h1 h2, r.1 c (List.mem_of_getElem? h2)⟩) hv' (fun W bx hbw hbx => ?_)
  by_cases h5 : k = 5
  · subst h5
    rw [← hcl] at hbx
    exact pairs_seq hb r (one_pr e hv) hbw hbx
  · have ep := hk h5
    subst ep
    have ec : cp = [] := List.length_eq_zero_iff.1 (by simpa using e)
    subst ec
    exact pairs_seq0 h5 hbx
theorem mok : ∀ n : Nat, Mok n
  | 0 => same_s (fun m e => by cases e) (fun m _ => pok m) (pok 0)
  | n + 1 => same_s (fun m e => by cases e; exact mok n) (fun m _ => pok m) (pok 0)
set_option maxRecDepth 100000 in
set_option maxHeartbeats 16000000 in
theorem equal_d {F G : Nat → Prop} {w : World} {t t' : T} {c c' : List Value} {h h' : Nat} (hh : hgt h t) (hh' : hgt h' t') (hs : sbd h t) (hs' : sbd h' t') (hv : VA F w t c) (hv' : VA G w t' c') (hT : Ev w) (h8 : 8 ≤ w.heap.size) : Calls Tryz.prog 25 #[.agg c.toArray, .agg c'.toArray] w fun e w' => e = .returned (.bool (gd 8 t && (gd 8 t' && smB 9 t t'))) ∧ Below w.heap.size w w' := by
  have hc1 : Hid (∀ w2, Below w.heap.size w w2 → Calls Tryz.prog 17 #[.agg c.toArray] w2 fun e w' => e = .returned (if gd 8 t then .nilIface else .iface 52 (.int .i64 1)) ∧ Below w2.heap.size w2 w') := hide1 fun w2 hb => check_d hh hs (hv.frame (G := F) (fun j _ hj => hb.block j hj) (fun _ h _ => h)) (hT.below hb (by omega)) (by have := hb.size; omega)
  have hc2 : Hid (∀ w2, Below w.heap.size w w2 → Calls Tryz.prog 17 #[.agg c'.toArray] w2 fun e w' => e = .returned (if gd 8 t' then .nilIface else .iface 52 (.int .i64 1)) ∧ Below w2.heap.size w2 w') := hide1 fun w2 hb => check_d hh' hs' (hv'.frame (G := G) (fun j _ hj => hb.block j hj) (fun _ h _ => h)) (hT.below hb (by omega)) (by have := hb.size; omega)
  have hc3 : Hid (gd 8 t = true → gd 8 t' = true → ∀ w2, Below w.heap.size w w2 → Calls Tryz.prog 42 #[.agg c.toArray, .agg c'.toArray] w2 fun e w' => e = .returned (.bool (smB 9 t t')) ∧ Below w2.heap.size w2 w') := hide1 fun g g' w2 hb => mok 8 g g' hh hh' hs hs' (hv.frame (G := F) (fun j _ hj => hb.block j hj) (fun _ h _ => h)) (hv'.frame (G := G) (fun j _ hj => hb.block j hj) (fun _ h _ => h))
  obtain ⟨y0, y1, y2, y3, y4, rfl⟩ := five_l hv.len
  obtain ⟨z0, z1, z2, z3, z4, rfl⟩ := five_l hv'.len
  clear hv hv' hT hh hh' hs hs' h8
  have hb0 := (below_al (w := w) (.cells #[y0, y1, y2, y3, y4] 28)).alloc (by simp) (.cells #[z0, z1, z2, z3, z4] 28)
  have hk1 := hc1.out _ hb0
  replace hb0 := hide1 hb0
  show Calls Tryz.prog 25 #[.agg #[y0, y1, y2, y3, y4], .agg #[z0, z1, z2, z3, z4]] w _
  go_enter Tryz.func25, Tryz.ntmps25
  go_wp2_with fail
  have p0 : ((w.alloc (.cells #[y0, y1, y2, y3, y4] 28)).alloc (.cells #[z0, z1, z2, z3, z4] 28)).heap[w.heap.size]? = some (.cells #[y0, y1, y2, y3, y4] 28 (0, 0)) := by
    show ((w.heap.push _).push _)[w.heap.size]? = _
    rw [Array.getElem?_push, if_neg (by simp), Array.getElem?_push, if_pos rfl]
  have p1 : ((w.alloc (.cells #[y0, y1, y2, y3, y4] 28)).alloc (.cells #[z0, z1, z2, z3, z4] 28)).heap[w.heap.size + 1]? = some (.cells #[z0, z1, z2, z3, z4] 28 (0, 0)) := by
    show ((w.heap.push _).push _)[w.heap.size + 1]? = _
    rw [Array.getElem?_push, if_pos (by simp)]
  refine hk1.mono ?_
  rintro e w1 ⟨rfl, b1⟩
  have q0w1 := (b1.block _ (Array.getElem?_eq_some_iff.1 p0).1).trans p0
  have q1w1 := (b1.block _ (Array.getElem?_eq_some_iff.1 p1).1).trans p1
  have B1 := hb0.out.trans (b1.mono hb0.out.size)
  clear p0 p1 hk1 b1
  cases g : gd 8 t with
  | false =>
    rw [if_neg (by simp)]
    replace B1 := hide1 B1
    go_wp2
    go_ret
    exact ⟨by rw [g]; rfl, B1.out⟩
  | true =>
    rw [if_pos rfl]
    have l0 : w1.cell? ⟨w.heap.size, 0, none⟩ = some y0 := by simp only [World.cell?, q0w1]; rfl
    have l1 : w1.cell? ⟨w.heap.size, 1, none⟩ = some y1 := by simp only [World.cell?, q0w1]; rfl
    have l2 : w1.cell? ⟨w.heap.size, 2, none⟩ = some y2 := by simp only [World.cell?, q0w1]; rfl
    have l3 : w1.cell? ⟨w.heap.size, 3, none⟩ = some y3 := by simp only [World.cell?, q0w1]; rfl
    have l4 : w1.cell? ⟨w.heap.size, 4, none⟩ = some y4 := by simp only [World.cell?, q0w1]; rfl
    have m0 : w1.cell? ⟨w.heap.size + 1, 0, none⟩ = some z0 := by simp only [World.cell?, q1w1]; rfl
    have m1 : w1.cell? ⟨w.heap.size + 1, 1, none⟩ = some z1 := by simp only [World.cell?, q1w1]; rfl
    have m2 : w1.cell? ⟨w.heap.size + 1, 2, none⟩ = some z2 := by simp only [World.cell?, q1w1]; rfl
    have m3 : w1.cell? ⟨w.heap.size + 1, 3, none⟩ = some z3 := by simp only [World.cell?, q1w1]; rfl
    have m4 : w1.cell? ⟨w.heap.size + 1, 4, none⟩ = some z4 := by simp only [World.cell?, q1w1]; rfl
    have hk2 := hc2.out w1 B1
    replace B1 := hide1 B1
    replace q0w1 := hide1 q0w1
    replace q1w1 := hide1 q1w1
    go_wp2_with fail
    refine hk2.mono ?_
    rintro e w2 ⟨rfl, b2⟩
    have q0w2 := (b2.block _ (Array.getElem?_eq_some_iff.1 q0w1.out).1).trans q0w1.out
    have q1w2 := (b2.block _ (Array.getElem?_eq_some_iff.1 q1w1.out).1).trans q1w1.out
    have B2 := B1.out.trans (b2.mono B1.out.size)
    clear hk2 b2 l0 l1 l2 l3 l4 m0 m1 m2 m3 m4
    cases g' : gd 8 t' with
    | false =>
      rw [if_neg (by simp)]
      replace B2 := hide1 B2
      go_wp2
      go_ret
      exact ⟨by rw [g, g']; rfl, B2.out⟩
    | true =>
      rw [if_pos rfl]
      have l0 : w2.cell? ⟨w.heap.size, 0, none⟩ = some y0 := by simp only [World.cell?, q0w2]; rfl
      have l1 : w2.cell? ⟨w.heap.size, 1, none⟩ = some y1 := by simp only [World.cell?, q0w2]; rfl
      have l2 : w2.cell? ⟨w.heap.size, 2, none⟩ = some y2 := by simp only [World.cell?, q0w2]; rfl
      have l3 : w2.cell? ⟨w.heap.size, 3, none⟩ = some y3 := by simp only [World.cell?, q0w2]; rfl
      have l4 : w2.cell? ⟨w.heap.size, 4, none⟩ = some y4 := by simp only [World.cell?, q0w2]; rfl
      have m0 : w2.cell? ⟨w.heap.size + 1, 0, none⟩ = some z0 := by simp only [World.cell?, q1w2]; rfl
      have m1 : w2.cell? ⟨w.heap.size + 1, 1, none⟩ = some z1 := by simp only [World.cell?, q1w2]; rfl
      have m2 : w2.cell? ⟨w.heap.size + 1, 2, none⟩ = some z2 := by simp only [World.cell?, q1w2]; rfl
      have m3 : w2.cell? ⟨w.heap.size + 1, 3, none⟩ = some z3 := by simp only [World.cell?, q1w2]; rfl
      have m4 : w2.cell? ⟨w.heap.size + 1, 4, none⟩ = some z4 := by simp only [World.cell?, q1w2]; rfl
      have hk3 := hc3.out g g' w2 B2
      replace B2 := hide1 B2
      obtain ⟨R, hR⟩ : ∃ R, Hid (R = smB 9 t t') := ⟨_, hide1 rfl⟩
      rw [← hR.out] at hk3
      go_wp2_with fail
      refine hk3.mono ?_
      rintro e w3 ⟨rfl, b3⟩
      have B3 := hide1 (B2.out.trans (b3.mono B2.out.size))
      clear hk3 b3
      go_wp2
      go_ret
      exact ⟨by rw [g, g', ← hR.out]; rfl, B3.out⟩
end Go.Proofs.YtbemaloaobeblaaGreatDoor

namespace Go.Proofs.YtbemaloaobeblaaGreatDoor
open Go.RowKit Go.Shelf
section
variable {k i : Int} {s : List UInt8} {sa pa sa' pa' : Option Addr} {A P A' P' sc pc sc' pc' : Nat} {w : World}
end
end Go.Proofs.YtbemaloaobeblaaGreatDoor

namespace Go.Proofs.YtbemaloaobeblaaGreatDoor
open Go.RowKit
section
variable {P : Program} {Q : Exit → Act → World → Prop}
end
end Go.Proofs.YtbemaloaobeblaaGreatDoor

namespace Go.Proofs.YtbemaloaobeblaaGreatDoor
open Go.RowKit Go.Shelf
section
variable {P : Program} {Q : Exit → Act → World → Prop}
def Hop5 (P : Program) (Q : Exit → Act → World → Prop) (l : List Oper) (n : Nat) (a0 : Act) (dd : Nat → Nat) (Rr : (Nat → Bool) → Nat → Value → World → Prop) (M : (Nat → Bool) → World → Prop) (i : Nat) (o : Oper) : Prop :=
  ∀ (D : Nat → Bool) (a : Act) (w : World), M D w → (∀ t, (∀ j, j < n → dd j ≠ t) → a.tmps.getD t undef = a0.tmps.getD t undef) → (∀ e ∈ o.after, Region.binds .any e = true → Rr D e.on (a.tmps.getD (dd e.on) undef) w ∧ D e.on = true) → D i = false → (∀ j oj, l[j]? = some oj → D j = true → ∀ e ∈ oj.after, Region.binds .any e = true → D e.on = true) →
    ∀ K : Act → World → Prop, (∀ v w', Rr (add1 D i) i v w' → M (add1 D i) w' → (∀ j u, j ≠ i → u = a.tmps.getD (dd j) undef → Rr D j u w → Rr (add1 D i) j u w') → K (a.put o.dst v) w') → Region.wanted o (yielded l.toArray a.tmps) = true ∧ o.wp P a w K Q
theorem wp_rel5 {l : List Oper} {id : Nat} (a0 : Act) (w0 : World) (Rr : (Nat → Bool) → Nat → Value → World → Prop) (M : (Nat → Bool) → World → Prop) (dd : Nat → Nat) (hm : P.follows .mixedOrders = true) (hac : acycB l.toArray = true) (n : Nat) (hn : l.length = n)
    (hdst : ∀ i o, l[i]? = some o → (o.dst = some (dd i) ∧ dd i < a0.tmps.size) ∨ (o.dst = none ∧ ∀ D v w, Rr D i v w → Rr D i undef w) ∧ a0.tmps.size ≤ dd i)
    (hinj : ∀ i j, i < n → j < n → dd i = dd j → i = j) (hdf : a0.defers = []) (h0 : M (fun _ => false) w0.drew)
    (hop : ∀ i o, l[i]? = some o → Hop5 P Q l n a0 dd Rr M i o)
    (hend : ∀ (D : Nat → Bool) (a : Act) (w : World), (∀ i, i < n → D i = true) → a.defers = [] → a.tmps.size = a0.tmps.size → M D w → (∀ t, (∀ j, j < n → dd j ≠ t) → a.tmps.getD t undef = a0.tmps.getD t undef) → (∀ i, i < n → Rr D i (a.tmps.getD (dd i) undef) w) → a = (l.filterMap (·.dst)).foldl (fun s d => s.put (some d) (a.tmps.getD d undef)) a0 → Q .normal a w) : (Code.region id l.toArray true).wp P Q a0 w0 := by
  subst hn
  have hacyc := acyc_of (ops := l.toArray) hac
  refine wp_region_any hm (wpAny_sym hacyc (fun D a w => a.defers = [] ∧ a.tmps.size = a0.tmps.size ∧ M D w ∧ (∀ t, (∀ j, j < l.length → dd j ≠ t) → a.tmps.getD t undef = a0.tmps.getD t undef) ∧ (∀ i, i < l.length → D i = true → Rr D i (a.tmps.getD (dd i) undef) w) ∧ ∀ j oj, l[j]? = some oj → D j = true → ∀ e ∈ oj.after, Region.binds .any e = true → D e.on = true) ?_ ?_ l.toArray.size _ a0 _ (by simp) ?_ ?_)
  · rintro D a w ⟨h1, h2, h3, h4, h5, h6⟩ i o ho hD hdep K hK
    have ho' : l[i]? = some o := by simpa using ho
    have hil : i < l.length := (List.getElem?_eq_some_iff.1 ho').1
    left
    refine hop i o ho' D a w h3 h4 (fun e he hb => ⟨h5 e.on (by have := hacyc i o ho e he hb; omega) (hdep e he hb), hdep e he hb⟩) (by simpa using hD) h6 K fun v w' hR hM hmono => hK _ _ ?_
    have hold : ∀ j, j < l.length → j ≠ i → add1 D i j = true → Rr (add1 D i) j (a.tmps.getD (dd j) undef) w' := fun j hj hne hDj => hmono j _ hne rfl (h5 j hj (by unfold add1 at hDj; rwa [if_neg hne] at hDj))
    have hcl : ∀ j oj, l[j]? = some oj → add1 D i j = true → ∀ e ∈ oj.after, Region.binds .any e = true → add1 D i e.on = true := by
      intro j oj hj hDj e he hb
      unfold add1
      split
      · rfl
      · unfold add1 at hDj
        split at hDj
        · rename_i hji
          subst hji
          rw [ho'] at hj; cases hj
          exact hdep e he hb
        · exact h6 j oj hj hDj e he hb
    rcases hdst i o ho' with ⟨hd, hlt⟩ | ⟨⟨hd, hu⟩, hge⟩
    · have hdi : dd i < a.tmps.size := by rw [h2]; exact hlt
      rw [hd]
      refine ⟨h1, by unfold Act.put; simpa using h2, hM, fun t ht => ?_, fun j hj hDj => ?_, hcl⟩
      · rw [putg_ hdi, if_neg (fun e => ht i hil e.symm)]; exact h4 t ht
      · rw [putg_ hdi]
        by_cases e : dd j = dd i
        · rw [if_pos e, hinj j i hj hil e]; exact hR
        · rw [if_neg e]; exact hold j hj (fun e2 => e (by rw [e2])) hDj
    · rw [hd]
      refine ⟨h1, h2, hM, h4, fun j hj hDj => ?_, hcl⟩
      by_cases e : j = i
      · subst e
        have hz : a.tmps.getD (dd j) undef = undef := by
          rw [Array.getD_eq_getD_getElem?, Array.getElem?_eq_none (by rw [h2]; exact hge)]; rfl
        rw [show (a.put none v).tmps.getD (dd j) undef = undef from hz]
        exact hu _ _ _ hR
      · exact hold j hj e hDj
  · rintro D a w ⟨h1, h2, h3, h4, h5, _⟩ hall
    refine hend D a w (fun i hi => hall i (by simpa using hi)) h1 h2 h3 h4 (fun i hi => h5 i hi (hall i (by simpa using hi))) (act_puts (h1.trans hdf.symm) h2 fun t ht => ?_)
    by_cases hts : t < a0.tmps.size
    · refine h4 t fun j hj e => ?_
      rcases hdst j _ (List.getElem?_eq_getElem hj) with ⟨hd, _⟩ | ⟨_, hge⟩
      · unfold wrB at ht
        rw [List.any_eq_false] at ht
        exact ht _ (List.getElem_mem hj) (by rw [hd, e]; simp)
      · omega
    · rw [Array.getD_eq_getD_getElem?, Array.getD_eq_getD_getElem?, Array.getElem?_eq_none (by omega), Array.getElem?_eq_none (by omega)]
  · exact Nat.le_trans (List.length_filter_le _ _) (by simp)
  · have e : ∀ i, (Array.replicate l.toArray.size false).getD i false = false := by
      intro i
      by_cases h : i < l.toArray.size <;> simp [Array.getD]
    have ef : (fun i => (Array.replicate l.toArray.size false).getD i false) = fun _ => false := funext e
    refine ⟨hdf, rfl, ?_, fun _ _ => rfl, fun i _ hi => ?_, fun i _ _ hi => ?_⟩
    · exact ef ▸ h0
    · replace hi : (Array.replicate l.toArray.size false).getD i false = true := hi
      rw [e] at hi; cases hi
    · replace hi : (Array.replicate l.toArray.size false).getD i false = true := hi
      rw [e] at hi; cases hi
end
end Go.Proofs.YtbemaloaobeblaaGreatDoor

namespace Go.Proofs.YtbemaloaobeblaaGreatDoor
open Go.RowKit

structure Ob (w w' : World) (g : Nat) : Prop where
  os : w'.os = w.os
  tape : w'.tape = w.tape
  output : w'.output = w.output
  size : w'.heap.size = w.heap.size
  block : ∀ k, k ≠ g → w'.heap[k]? = w.heap[k]?
theorem Ob.refl (w : World) (g : Nat) : Ob w w g := ⟨rfl, rfl, rfl, rfl, fun _ _ => rfl⟩
abbrev Ep := List UInt8 × List Value
def cl (e : Ep) : List Value := .string (st e.1) :: e.2
def ltE (e e' : Ep) : Bool := bl e.1 e'.1
theorem ok_ltE : Ok ltE := ⟨fun _ => bl_irr _, fun _ _ _ => bl_tr _ _ _, fun _ _ _ => bl_wk _ _ _⟩
def EpOk (e : Ep) : Prop := e.2.length = 5 ∧ e.2.all (·.oneCell') = true
theorem EpOk.len {e : Ep} (h : EpOk e) : (cl e).length = 6 := by simp [cl, h.1]
theorem EpOk.one {e : Ep} (h : EpOk e) : (cl e).all (·.oneCell') = true := by
  show (true && e.2.all (·.oneCell')) = true
  rw [h.2]; rfl
def upd' {α : Type} (F : Nat → α) (x : Nat) (e : α) : Nat → α := fun k => if k = x then e else F k
structure Rw (w : World) (B g n cap : Nat) (F : Nat → Ep) : Prop where
  row : w.ownsRow B 49 6 (.slice (some ⟨g, 0, none⟩) n cap) n ((sg F 0 n).map cl).flatten
  ok : ∀ k, k < n → EpOk (F k)
section
variable {w w' : World} {B g n cap : Nat} {F : Nat → Ep}
theorem Rw.lens (h : Rw w B g n cap F) : ∀ c ∈ (sg F 0 n).map cl, c.length = 6 := fun c hc => by
  obtain ⟨e, he, rfl⟩ := List.mem_map.1 hc
  obtain ⟨k, _, hk, rfl⟩ := sg_mem.1 he
  exact (h.ok k (by omega)).len
theorem Rw.congr (h : Rw w B g n cap F) {G : Nat → Ep} (e : ∀ k, k < n → G k = F k) : Rw w B g n cap G := by
  refine ⟨?_, fun k hk => by rw [e k hk]; exact h.ok k hk⟩
  rw [sg_congr (F := G) (G := F) (b := 0) fun i hi => by rw [Nat.zero_add]; exact e i hi]
  exact h.row
theorem Rw.keep (h : Rw w B g n cap F) (hb : w'.heap[g]? = w.heap[g]?) : Rw w' B g n cap F :=
  ⟨own_kept h.row fun b e => by have : b = g := by simpa [Value.ownBlock] using e.symm
                                subst this; exact hb, h.ok⟩
theorem Rw.later (h : Rw w B g n cap F) (hb : Below w.heap.size w w') : Rw w' B g n cap F := by
  obtain ⟨cur, hg, _⟩ := own_cur h.row
  exact h.keep (hb.block g (Array.getElem?_eq_some_iff.1 hg).1)
theorem Rw.lt (h : Rw w B g n cap F) : B ≤ g ∧ g < w.heap.size := by
  obtain ⟨cur, hg, _, hB⟩ := own_cur h.row
  exact ⟨hB, (Array.getElem?_eq_some_iff.1 hg).1⟩
theorem Rw.range (h : Rw w B g n cap F) {x : Nat} (hx : x < n) : w.rangeAt g (x * 6) (cl (F x)) := by
  have h1 := own_rows (F := fun _ => True) (cs := (sg F 0 n).map cl) (by rw [List.length_map, sg_len]; exact h.row) h.lens (fun _ _ => trivial)
  obtain ⟨b, o, cap', e, _, _, h2⟩ := h1.at (i := x) (c := cl (F x)) (by rw [List.getElem?_map, sg_at hx, Nat.zero_add]; rfl)
  have e2 := congrArg (fun v => match v with | Value.slice (some a) _ _ => some (a.block, a.off) | _ => none) e
  simp only [Option.some.injEq, Prod.mk.injEq] at e2
  obtain ⟨rfl, rfl⟩ := e2
  rw [Nat.zero_add] at h2
  exact h2
theorem Rw.load (h : Rw w B g n cap F) {x : Nat} (hx : x < n) : (Instr.loadAt 49 (.pointer (some ⟨g, x * 6, none⟩))).run Tryz.prog w = .ok (.agg (cl (F x)).toArray) w := by
  have hl := (h.ok x hx).len
  simp only [Instr.loadAt, Instr.sureAddr, Sem.run_bind, Sem.run_pure, Result.andThen_ok, run_loadVar_mid w g (x * 6) 49 (cl (F x)) _ (h.range hx) Tryz.underlying49 rfl (by rw [hl]; kernel_rfl)]
theorem Ob.trans {w w' w2 : World} {g : Nat} (h : Ob w w' g) (h2 : Ob w' w2 g) : Ob w w2 g :=
  ⟨h2.os.trans h.os, h2.tape.trans h.tape, h2.output.trans h.output, h2.size.trans h.size, fun k hk => (h2.block k hk).trans (h.block k hk)⟩
theorem Ob.rowset {w w' : World} {g : Nat} {c : Array Value} (h : Ob w w' g) : Ob w (w'.setRow g c) g :=
  ⟨h.os, h.tape, h.output, by rw [← h.size]; simp [World.setRow], fun k hk => (setRow_other w' g k _ hk).trans (h.block k hk)⟩
theorem Rw.store (h : Rw w B g n cap F) {x : Nat} (hx : x < n) {e : Ep} (he : EpOk e) : ∃ c, (Instr.storeAt 49 (.pointer (some ⟨g, x * 6, none⟩)) (.agg (cl e).toArray)).run Tryz.prog w = .ok () (w.setRow g c) ∧ Rw (w.setRow g c) B g n cap (upd' F x e) := by
  obtain ⟨cur, hg, hcur, hB⟩ := own_cur h.row
  have hl := he.len
  have hfit : x * 6 + 6 ≤ n * 6 := by omega
  have hst := st_eP (c := (cl e).toArray) hg (by simpa using hl) (Nat.le_trans hfit hcur) (by simpa using he.one)
  have hp := own_piece h.row (c := (cl e).toArray) (m := 6) (by simpa using hl) hfit hg
  refine ⟨_, hst, ?_, fun k hk => ?_⟩
  · have hs := flat_set h.lens x (cl e) (by rw [List.length_map, sg_len]; exact hx)
    simp only [] at hp
    rw [← hs] at hp
    have e2 : ((sg F 0 n).map cl).set x (cl e) = (sg (upd' F x e) 0 n).map cl := by
      refine List.ext_getElem? fun j => ?_
      rw [List.getElem?_set, List.length_map, sg_len, List.getElem?_map, List.getElem?_map]
      by_cases hj : j < n
      · rw [sg_at hj, sg_at hj, Nat.zero_add]
        unfold upd'
        by_cases e3 : x = j
        · subst e3; simp [hx]
        · rw [if_neg e3, if_neg (fun e4 => e3 e4.symm)]
      · rw [List.getElem?_eq_none (by rw [sg_len]; omega), List.getElem?_eq_none (by rw [sg_len]; omega)]
        split
        · rename_i e3; subst e3; exact absurd hx hj
        · rfl
    rw [← e2]
    exact hp
  · unfold upd'
    split
    · exact he
    · exact h.ok k hk
end
def fsw {α : Type} (D1 D2 : Bool) (F : Nat → α) (x y : Nat) : Nat → α := fun k => if D1 = true ∧ k = x then F y else if D2 = true ∧ k = y then F x else F k
def Msw (W : World) (B g n cap : Nat) (F : Nat → Ep) (x y : Nat) (D1 D2 : Bool) (w : World) : Prop := (EpOk (F x) ∧ EpOk (F y)) ∧ Rw w B g n cap (fsw D1 D2 F x y) ∧ Ob W w g
section
variable {W w : World} {B g n cap x y : Nat} {F : Nat → Ep} {D : Nat → Bool} {D1 D2 : Bool}
theorem msw_ne {i s1 s2 : Nat} (h1 : s1 ≠ i) (h2 : s2 ≠ i) (h : Msw W B g n cap F x y (D s1) (D s2) w) : Msw W B g n cap F x y (add1 D i s1) (add1 D i s2) w := by
  rw [add1_ne h1, add1_ne h2]; exact h
theorem fsw_00 : fsw false false F x y = F := by funext k; simp [fsw]
theorem fsw_11 : fsw true true F x y = sr F x y 1 := by
  funext k
  unfold fsw sr
  simp only [true_and]
  (repeat' split) <;> first | rfl | omega | (congr 1; omega)
theorem msw_start (hx : x < n) (hy : y < n) (h : Rw W B g n cap F) : Msw W B g n cap F x y false false W.drew := by
  refine ⟨⟨h.ok x hx, h.ok y hy⟩, ?_, ⟨rfl, rfl, rfl, rfl, fun _ _ => rfl⟩⟩
  rw [fsw_00]
  exact h.keep rfl
theorem msw_00 (h1 : D1 = false) (h2 : D2 = false) (h : Msw W B g n cap F x y D1 D2 w) : Rw w B g n cap F := by
  subst h1; subst h2
  have := h.2.1
  rwa [fsw_00] at this
theorem msw_1 {s1 s2 : Nat} (h12 : s2 ≠ s1) (_ : x ≠ y) (hx : x < n) (hD : D s1 = false) (h : Msw W B g n cap F x y (D s1) (D s2) w) :
    ∃ c, (Instr.storeAt 49 (.pointer (some ⟨g, x * 6, none⟩)) (.agg (cl (F y)).toArray)).run Tryz.prog w = .ok () (w.setRow g c) ∧ Msw W B g n cap F x y (add1 D s1 s1) (add1 D s1 s2) (w.setRow g c) := by
  obtain ⟨c, h1, h2⟩ := h.2.1.store hx h.1.2
  refine ⟨c, h1, h.1, ?_, h.2.2.rowset⟩
  rw [add1_eq, add1_ne h12]
  refine h2.congr fun k hk => ?_
  unfold fsw upd'
  rw [hD]
  simp only [true_and]
  (repeat' split) <;> first | rfl | omega | (exfalso; simp_all)
theorem msw_2 {s1 s2 : Nat} (h12 : s1 ≠ s2) (hxy : x ≠ y) (hy : y < n) (hD : D s2 = false) (h : Msw W B g n cap F x y (D s1) (D s2) w) :
    ∃ c, (Instr.storeAt 49 (.pointer (some ⟨g, y * 6, none⟩)) (.agg (cl (F x)).toArray)).run Tryz.prog w = .ok () (w.setRow g c) ∧ Msw W B g n cap F x y (add1 D s2 s1) (add1 D s2 s2) (w.setRow g c) := by
  obtain ⟨c, h1, h2⟩ := h.2.1.store hy h.1.1
  refine ⟨c, h1, h.1, ?_, h.2.2.rowset⟩
  rw [add1_eq, add1_ne h12]
  refine h2.congr fun k hk => ?_
  unfold fsw upd'
  rw [hD]
  simp only [true_and]
  (repeat' split) <;> first | rfl | omega | (exfalso; simp_all; done) | (exfalso; simp_all; omega)
theorem msw_11 (_ : x ≠ y) (h1 : D1 = true) (h2 : D2 = true) (h : Msw W B g n cap F x y D1 D2 w) : Rw w B g n cap (sr F x y 1) ∧ Ob W w g := by
  subst h1; subst h2
  have := h.2
  rwa [fsw_11] at this
end
theorem eqg_add {t : TypeId} {x u : Operand} {a b : Value} {w : World} : (eqGuard .add t x u a b).run Tryz.prog w = .ok () w := rfl
theorem add_n {a b : Nat} (h : a + b ≤ 1000000000) (w : World) : (binOp .add 3 (.int .i64 (a : Nat)) (.int .i64 (b : Nat))).run Tryz.prog w = .ok (.int .i64 (a + b : Nat)) w := by
  have e : ((a + b : Nat) : Int) = (a : Int) + (b : Int) := by omega
  have hwr : IntKind.i64.wrap ((a : Int) + (b : Int)) = (a : Int) + (b : Int) := by go_unwrap
  rw [e]
  simp [go_sem, hwr]
def SRv (g n cap xa xb i : Nat) (F : Nat → Ep) : Nat → Value → Prop
  | 0, v => v = (.slice (some ⟨g, 0, none⟩) n cap)
  | 1, v => v = (.int .i64 (xa : Nat))
  | 2, v => v = (.int .i64 (i : Nat))
  | 3, v => v = (.int .i64 (xa + i : Nat))
  | 4, v => v = (.slice (some ⟨g, 0, none⟩) n cap)
  | 5, v => v = (.int .i64 (xb : Nat))
  | 6, v => v = (.int .i64 (i : Nat))
  | 7, v => v = (.int .i64 (xb + i : Nat))
  | 8, v => v = (.slice (some ⟨g, 0, none⟩) n cap)
  | 9, v => v = (.int .i64 (xb : Nat))
  | 10, v => v = (.int .i64 (i : Nat))
  | 11, v => v = (.int .i64 (xb + i : Nat))
  | 12, v => v = .pointer (some ⟨g, (xb + i) * 6, none⟩)
  | 13, v => v = .agg (cl (F (xb + i))).toArray
  | 14, v => v = (.slice (some ⟨g, 0, none⟩) n cap)
  | 15, v => v = (.int .i64 (xa : Nat))
  | 16, v => v = (.int .i64 (i : Nat))
  | 17, v => v = (.int .i64 (xa + i : Nat))
  | 18, v => v = .pointer (some ⟨g, (xa + i) * 6, none⟩)
  | 19, v => v = .agg (cl (F (xa + i))).toArray
  | 20, v => v = .pointer (some ⟨g, (xa + i) * 6, none⟩)
  | 22, v => v = .pointer (some ⟨g, (xb + i) * 6, none⟩)
  | _, _ => True
def SRvd : Nat → Nat
  | 0 => 16
  | 1 => 17
  | 2 => 18
  | 3 => 19
  | 4 => 20
  | 5 => 21
  | 6 => 22
  | 7 => 23
  | 8 => 24
  | 9 => 25
  | 10 => 26
  | 11 => 27
  | 12 => 28
  | 13 => 29
  | 14 => 30
  | 15 => 31
  | 16 => 32
  | 17 => 33
  | 18 => 34
  | 19 => 35
  | 20 => 36
  | 21 => 1021
  | 22 => 37
  | 23 => 1023
  | i => 2000 + i

set_option maxHeartbeats 4000000 in
set_option maxRecDepth 100000 in
theorem swr_d {w : World} {B g n cap xa xb m : Nat} {F : Nat → Ep} {fv : Value} (h : Rw w B g n cap F) (hab : xa + m ≤ xb) (hbn : xb + m ≤ n) (hn : n ≤ 2000000) :
    Calls Tryz.prog 161 #[.slice (some ⟨g, 0, none⟩) n cap, .int .i64 (xa : Nat), .int .i64 (xb : Nat), .int .i64 (m : Nat), fv] w fun e w' => e = .returned (.tuple #[]) ∧ Rw w' B g n cap (sr F xa xb m) ∧ Ob w w' g := by
  have h0 : Hid (Rw w B g n cap (sr F xa xb 0)) := hide1 (by rw [sr_0]; exact h)
  clear h
  go_enter Tryz.func161, Tryz.ntmps161
  go_wp2_with fail
  go_loopw [10] (fun s10 wr => ∃ i : Nat, i ≤ m ∧ s10 = .int .i64 (i : Nat) ∧ Hid (Rw wr B g n cap (sr F xa xb i)) ∧ Hid (Ob w wr g)) (fun s _ => m - (intOf s).toNat)
  case atStart => exact ⟨0, by omega, rfl, h0, hide1 (Ob.refl w g)⟩
  case round =>
    obtain ⟨i, hi, rfl, hR, hO⟩ := hrel
    by_cases hlt : i < m
    · have hxy : xa + i ≠ xb + i := by omega
      have hxn : xa + i < n := by omega
      have hyn : xb + i < n := by omega
      have hadA := fun w => add_n (a := xa) (b := i) (by omega) w
      have hadB := fun w => add_n (a := xb) (b := i) (by omega) w
      have hsr : Hid (sr (sr F xa xb i) (xa + i) (xb + i) 1 = sr F xa xb (i + 1)) := hide1 (sr_s F (by omega))
      go_upto_region 3 with fail
      refine wp_rel5 _ _ (fun _ j v _ => SRv g n cap xa xb i (sr F xa xb i) j v) (fun D w => Msw wr B g n cap (sr F xa xb i) (xa + i) (xb + i) (D 21) (D 23) w) SRvd (by kernel_rfl) (by kernel_rfl) 24 (by kernel_rfl) ?_ ?_ rfl (msw_start hxn hyn hR.out) ?_ ?_
      · intro ix o ho
        match ix, ho with
        | 0, ho => obtain rfl := Option.some.inj ho; exact .inl ⟨rfl, by show 16 < 38; decide⟩
        | 1, ho => obtain rfl := Option.some.inj ho; exact .inl ⟨rfl, by show 17 < 38; decide⟩
        | 2, ho => obtain rfl := Option.some.inj ho; exact .inl ⟨rfl, by show 18 < 38; decide⟩
        | 3, ho => obtain rfl := Option.some.inj ho; exact .inl ⟨rfl, by show 19 < 38; decide⟩
        | 4, ho => obtain rfl := Option.some.inj ho; exact .inl ⟨rfl, by show 20 < 38; decide⟩
        | 5, ho => obtain rfl := Option.some.inj ho; exact .inl ⟨rfl, by show 21 < 38; decide⟩
        | 6, ho => obtain rfl := Option.some.inj ho; exact .inl ⟨rfl, by show 22 < 38; decide⟩
        | 7, ho => obtain rfl := Option.some.inj ho; exact .inl ⟨rfl, by show 23 < 38; decide⟩
        | 8, ho => obtain rfl := Option.some.inj ho; exact .inl ⟨rfl, by show 24 < 38; decide⟩
        | 9, ho => obtain rfl := Option.some.inj ho; exact .inl ⟨rfl, by show 25 < 38; decide⟩
        | 10, ho => obtain rfl := Option.some.inj ho; exact .inl ⟨rfl, by show 26 < 38; decide⟩
        | 11, ho => obtain rfl := Option.some.inj ho; exact .inl ⟨rfl, by show 27 < 38; decide⟩
        | 12, ho => obtain rfl := Option.some.inj ho; exact .inl ⟨rfl, by show 28 < 38; decide⟩
        | 13, ho => obtain rfl := Option.some.inj ho; exact .inl ⟨rfl, by show 29 < 38; decide⟩
        | 14, ho => obtain rfl := Option.some.inj ho; exact .inl ⟨rfl, by show 30 < 38; decide⟩
        | 15, ho => obtain rfl := Option.some.inj ho; exact .inl ⟨rfl, by show 31 < 38; decide⟩
        | 16, ho => obtain rfl := Option.some.inj ho; exact .inl ⟨rfl, by show 32 < 38; decide⟩
        | 17, ho => obtain rfl := Option.some.inj ho; exact .inl ⟨rfl, by show 33 < 38; decide⟩
        | 18, ho => obtain rfl := Option.some.inj ho; exact .inl ⟨rfl, by show 34 < 38; decide⟩
        | 19, ho => obtain rfl := Option.some.inj ho; exact .inl ⟨rfl, by show 35 < 38; decide⟩
        | 20, ho => obtain rfl := Option.some.inj ho; exact .inl ⟨rfl, by show 36 < 38; decide⟩
        | 21, ho => obtain rfl := Option.some.inj ho; exact .inr ⟨⟨rfl, fun _ _ _ _ => trivial⟩, by show 38 ≤ 1021; decide⟩
        | 22, ho => obtain rfl := Option.some.inj ho; exact .inl ⟨rfl, by show 37 < 38; decide⟩
        | 23, ho => obtain rfl := Option.some.inj ho; exact .inr ⟨⟨rfl, fun _ _ _ _ => trivial⟩, by show 38 ≤ 1023; decide⟩
        | _ + 24, ho => exact absurd ho (by simp)
      · intro ix jx hi hj e; unfold SRvd at e; split at e <;> split at e <;> omega
      · intro ix o ho
        match ix, ho with
        | 0, ho =>
          obtain rfl := Option.some.inj ho
          intro D a w hM hsl hdep hDi hcl K hK
          have hp0 : a.tmps.getD 0 undef = (.slice (some ⟨g, 0, none⟩) n cap) := hsl 0 (by intro j hj; unfold SRvd; split <;> omega)
          refine ⟨rfl, ?_⟩
          refine wp_val (w' := w) (v := (.slice (some ⟨g, 0, none⟩) n cap)) (by simp only [execOp, Act.eval]; rw [show a.tmps.getD 0 undef = _ from hp0]; rfl) ?_
          exact hK _ _ rfl (msw_ne (by decide) (by decide) hM) (fun _ _ _ _ h => h)
        | 1, ho =>
          obtain rfl := Option.some.inj ho
          intro D a w hM hsl hdep hDi hcl K hK
          have hp1 : a.tmps.getD 1 undef = (.int .i64 (xa : Nat)) := hsl 1 (by intro j hj; unfold SRvd; split <;> omega)
          refine ⟨rfl, ?_⟩
          refine wp_val (w' := w) (v := (.int .i64 (xa : Nat))) (by simp only [execOp, Act.eval]; rw [show a.tmps.getD 1 undef = _ from hp1]; rfl) ?_
          exact hK _ _ rfl (msw_ne (by decide) (by decide) hM) (fun _ _ _ _ h => h)
        | 2, ho =>
          obtain rfl := Option.some.inj ho
          intro D a w hM hsl hdep hDi hcl K hK
          have hp10 : a.tmps.getD 10 undef = (.int .i64 (i : Nat)) := hsl 10 (by intro j hj; unfold SRvd; split <;> omega)
          refine ⟨rfl, ?_⟩
          refine wp_val (w' := w) (v := (.int .i64 (i : Nat))) (by simp only [execOp, Act.eval]; rw [show a.tmps.getD 10 undef = _ from hp10]; rfl) ?_
          exact hK _ _ rfl (msw_ne (by decide) (by decide) hM) (fun _ _ _ _ h => h)
        | 3, ho =>
          obtain rfl := Option.some.inj ho
          intro D a w hM hsl hdep hDi hcl K hK
          have e1 := (hdep ⟨1, .data⟩ (by simp) rfl).1
          have e2 := (hdep ⟨2, .data⟩ (by simp) rfl).1
          refine ⟨rfl, ?_⟩
          refine wp_val (w' := w) (v := (.int .i64 (xa + i : Nat))) (by simp only [execOp, Act.eval]; rw [show a.tmps.getD 17 undef = _ from e1, show a.tmps.getD 18 undef = _ from e2]; simp only [Sem.run_bind, eqg_add, hadA, Result.andThen_ok, Sem.run_pure]) ?_
          exact hK _ _ rfl (msw_ne (by decide) (by decide) hM) (fun _ _ _ _ h => h)
        | 4, ho =>
          obtain rfl := Option.some.inj ho
          intro D a w hM hsl hdep hDi hcl K hK
          have hp0 : a.tmps.getD 0 undef = (.slice (some ⟨g, 0, none⟩) n cap) := hsl 0 (by intro j hj; unfold SRvd; split <;> omega)
          refine ⟨rfl, ?_⟩
          refine wp_val (w' := w) (v := (.slice (some ⟨g, 0, none⟩) n cap)) (by simp only [execOp, Act.eval]; rw [show a.tmps.getD 0 undef = _ from hp0]; rfl) ?_
          exact hK _ _ rfl (msw_ne (by decide) (by decide) hM) (fun _ _ _ _ h => h)
        | 5, ho =>
          obtain rfl := Option.some.inj ho
          intro D a w hM hsl hdep hDi hcl K hK
          have hp2 : a.tmps.getD 2 undef = (.int .i64 (xb : Nat)) := hsl 2 (by intro j hj; unfold SRvd; split <;> omega)
          refine ⟨rfl, ?_⟩
          refine wp_val (w' := w) (v := (.int .i64 (xb : Nat))) (by simp only [execOp, Act.eval]; rw [show a.tmps.getD 2 undef = _ from hp2]; rfl) ?_
          exact hK _ _ rfl (msw_ne (by decide) (by decide) hM) (fun _ _ _ _ h => h)
        | 6, ho =>
          obtain rfl := Option.some.inj ho
          intro D a w hM hsl hdep hDi hcl K hK
          have hp10 : a.tmps.getD 10 undef = (.int .i64 (i : Nat)) := hsl 10 (by intro j hj; unfold SRvd; split <;> omega)
          refine ⟨rfl, ?_⟩
          refine wp_val (w' := w) (v := (.int .i64 (i : Nat))) (by simp only [execOp, Act.eval]; rw [show a.tmps.getD 10 undef = _ from hp10]; rfl) ?_
          exact hK _ _ rfl (msw_ne (by decide) (by decide) hM) (fun _ _ _ _ h => h)
        | 7, ho =>
          obtain rfl := Option.some.inj ho
          intro D a w hM hsl hdep hDi hcl K hK
          have e5 := (hdep ⟨5, .data⟩ (by simp) rfl).1
          have e6 := (hdep ⟨6, .data⟩ (by simp) rfl).1
          refine ⟨rfl, ?_⟩
          refine wp_val (w' := w) (v := (.int .i64 (xb + i : Nat))) (by simp only [execOp, Act.eval]; rw [show a.tmps.getD 21 undef = _ from e5, show a.tmps.getD 22 undef = _ from e6]; simp only [Sem.run_bind, eqg_add, hadB, Result.andThen_ok, Sem.run_pure]) ?_
          exact hK _ _ rfl (msw_ne (by decide) (by decide) hM) (fun _ _ _ _ h => h)
        | 8, ho =>
          obtain rfl := Option.some.inj ho
          intro D a w hM hsl hdep hDi hcl K hK
          have hp0 : a.tmps.getD 0 undef = (.slice (some ⟨g, 0, none⟩) n cap) := hsl 0 (by intro j hj; unfold SRvd; split <;> omega)
          refine ⟨rfl, ?_⟩
          refine wp_val (w' := w) (v := (.slice (some ⟨g, 0, none⟩) n cap)) (by simp only [execOp, Act.eval]; rw [show a.tmps.getD 0 undef = _ from hp0]; rfl) ?_
          exact hK _ _ rfl (msw_ne (by decide) (by decide) hM) (fun _ _ _ _ h => h)
        | 9, ho =>
          obtain rfl := Option.some.inj ho
          intro D a w hM hsl hdep hDi hcl K hK
          have hp2 : a.tmps.getD 2 undef = (.int .i64 (xb : Nat)) := hsl 2 (by intro j hj; unfold SRvd; split <;> omega)
          refine ⟨rfl, ?_⟩
          refine wp_val (w' := w) (v := (.int .i64 (xb : Nat))) (by simp only [execOp, Act.eval]; rw [show a.tmps.getD 2 undef = _ from hp2]; rfl) ?_
          exact hK _ _ rfl (msw_ne (by decide) (by decide) hM) (fun _ _ _ _ h => h)
        | 10, ho =>
          obtain rfl := Option.some.inj ho
          intro D a w hM hsl hdep hDi hcl K hK
          have hp10 : a.tmps.getD 10 undef = (.int .i64 (i : Nat)) := hsl 10 (by intro j hj; unfold SRvd; split <;> omega)
          refine ⟨rfl, ?_⟩
          refine wp_val (w' := w) (v := (.int .i64 (i : Nat))) (by simp only [execOp, Act.eval]; rw [show a.tmps.getD 10 undef = _ from hp10]; rfl) ?_
          exact hK _ _ rfl (msw_ne (by decide) (by decide) hM) (fun _ _ _ _ h => h)
        | 11, ho =>
          obtain rfl := Option.some.inj ho
          intro D a w hM hsl hdep hDi hcl K hK
          have e9 := (hdep ⟨9, .data⟩ (by simp) rfl).1
          have e10 := (hdep ⟨10, .data⟩ (by simp) rfl).1
          refine ⟨rfl, ?_⟩
          refine wp_val (w' := w) (v := (.int .i64 (xb + i : Nat))) (by simp only [execOp, Act.eval]; rw [show a.tmps.getD 25 undef = _ from e9, show a.tmps.getD 26 undef = _ from e10]; simp only [Sem.run_bind, eqg_add, hadB, Result.andThen_ok, Sem.run_pure]) ?_
          exact hK _ _ rfl (msw_ne (by decide) (by decide) hM) (fun _ _ _ _ h => h)
        | 12, ho =>
          obtain rfl := Option.some.inj ho
          intro D a w hM hsl hdep hDi hcl K hK
          have e8 := (hdep ⟨8, .data⟩ (by simp) rfl).1
          have e11 := (hdep ⟨11, .data⟩ (by simp) rfl).1
          refine ⟨rfl, ?_⟩
          refine wp_val (w' := w) (v := .pointer (some ⟨g, (xb + i) * 6, none⟩)) (by simp only [execOp, Act.eval]; rw [show a.tmps.getD 24 undef = _ from e8, show a.tmps.getD 27 undef = _ from e11]; simp only [Sem.run_bind, ix_sP hyn, Result.andThen_ok, Sem.run_pure]) ?_
          exact hK _ _ rfl (msw_ne (by decide) (by decide) hM) (fun _ _ _ _ h => h)
        | 13, ho =>
          obtain rfl := Option.some.inj ho
          intro D a w hM hsl hdep hDi hcl K hK
          have e12 := (hdep ⟨12, .data⟩ (by simp) rfl).1
          have hD21 : D 21 = false := by cases h9 : D 21 with | false => rfl | true => have := hcl 21 _ rfl h9 ⟨13, .data⟩ (by simp) rfl; rw [this] at hDi; cases hDi
          have hD23 : D 23 = false := by cases h9 : D 23 with | false => rfl | true => have := hcl 23 _ rfl h9 ⟨13, .phase⟩ (by simp) rfl; rw [this] at hDi; cases hDi
          have hl := (msw_00 hD21 hD23 hM).load hyn
          refine ⟨rfl, ?_⟩
          refine wp_val (w' := w) (v := .agg (cl ((sr F xa xb i) (xb + i))).toArray) (by simp only [execOp, Act.eval]; rw [show a.tmps.getD 28 undef = _ from e12]; simp only [Sem.run_bind, hl, Result.andThen_ok, Sem.run_pure]) ?_
          exact hK _ _ rfl (msw_ne (by decide) (by decide) hM) (fun _ _ _ _ h => h)
        | 14, ho =>
          obtain rfl := Option.some.inj ho
          intro D a w hM hsl hdep hDi hcl K hK
          have hp0 : a.tmps.getD 0 undef = (.slice (some ⟨g, 0, none⟩) n cap) := hsl 0 (by intro j hj; unfold SRvd; split <;> omega)
          refine ⟨rfl, ?_⟩
          refine wp_val (w' := w) (v := (.slice (some ⟨g, 0, none⟩) n cap)) (by simp only [execOp, Act.eval]; rw [show a.tmps.getD 0 undef = _ from hp0]; rfl) ?_
          exact hK _ _ rfl (msw_ne (by decide) (by decide) hM) (fun _ _ _ _ h => h)
        | 15, ho =>
          obtain rfl := Option.some.inj ho
          intro D a w hM hsl hdep hDi hcl K hK
          have hp1 : a.tmps.getD 1 undef = (.int .i64 (xa : Nat)) := hsl 1 (by intro j hj; unfold SRvd; split <;> omega)
          refine ⟨rfl, ?_⟩
          refine wp_val (w' := w) (v := (.int .i64 (xa : Nat))) (by simp only [execOp, Act.eval]; rw [show a.tmps.getD 1 undef = _ from hp1]; rfl) ?_
          exact hK _ _ rfl (msw_ne (by decide) (by decide) hM) (fun _ _ _ _ h => h)
        | 16, ho =>
          obtain rfl := Option.some.inj ho
          intro D a w hM hsl hdep hDi hcl K hK
          have hp10 : a.tmps.getD 10 undef = (.int .i64 (i : Nat)) := hsl 10 (by intro j hj; unfold SRvd; split <;> omega)
          refine ⟨rfl, ?_⟩
          refine wp_val (w' := w) (v := (.int .i64 (i : Nat))) (by simp only [execOp, Act.eval]; rw [show a.tmps.getD 10 undef = _ from hp10]; rfl) ?_
          exact hK _ _ rfl (msw_ne (by decide) (by decide) hM) (fun _ _ _ _ h => h)
        | 17, ho =>
          obtain rfl := Option.some.inj ho
          intro D a w hM hsl hdep hDi hcl K hK
          have e15 := (hdep ⟨15, .data⟩ (by simp) rfl).1
          have e16 := (hdep ⟨16, .data⟩ (by simp) rfl).1
          refine ⟨rfl, ?_⟩
          refine wp_val (w' := w) (v := (.int .i64 (xa + i : Nat))) (by simp only [execOp, Act.eval]; rw [show a.tmps.getD 31 undef = _ from e15, show a.tmps.getD 32 undef = _ from e16]; simp only [Sem.run_bind, eqg_add, hadA, Result.andThen_ok, Sem.run_pure]) ?_
          exact hK _ _ rfl (msw_ne (by decide) (by decide) hM) (fun _ _ _ _ h => h)
        | 18, ho =>
          obtain rfl := Option.some.inj ho
          intro D a w hM hsl hdep hDi hcl K hK
          have e14 := (hdep ⟨14, .data⟩ (by simp) rfl).1
          have e17 := (hdep ⟨17, .data⟩ (by simp) rfl).1
          refine ⟨rfl, ?_⟩
          refine wp_val (w' := w) (v := .pointer (some ⟨g, (xa + i) * 6, none⟩)) (by simp only [execOp, Act.eval]; rw [show a.tmps.getD 30 undef = _ from e14, show a.tmps.getD 33 undef = _ from e17]; simp only [Sem.run_bind, ix_sP hxn, Result.andThen_ok, Sem.run_pure]) ?_
          exact hK _ _ rfl (msw_ne (by decide) (by decide) hM) (fun _ _ _ _ h => h)
        | 19, ho =>
          obtain rfl := Option.some.inj ho
          intro D a w hM hsl hdep hDi hcl K hK
          have e18 := (hdep ⟨18, .data⟩ (by simp) rfl).1
          have hD21 : D 21 = false := by cases h9 : D 21 with | false => rfl | true => have := hcl 21 _ rfl h9 ⟨19, .phase⟩ (by simp) rfl; rw [this] at hDi; cases hDi
          have hD23 : D 23 = false := by cases h9 : D 23 with | false => rfl | true => have := hcl 23 _ rfl h9 ⟨19, .data⟩ (by simp) rfl; rw [this] at hDi; cases hDi
          have hl := (msw_00 hD21 hD23 hM).load hxn
          refine ⟨rfl, ?_⟩
          refine wp_val (w' := w) (v := .agg (cl ((sr F xa xb i) (xa + i))).toArray) (by simp only [execOp, Act.eval]; rw [show a.tmps.getD 34 undef = _ from e18]; simp only [Sem.run_bind, hl, Result.andThen_ok, Sem.run_pure]) ?_
          exact hK _ _ rfl (msw_ne (by decide) (by decide) hM) (fun _ _ _ _ h => h)
        | 20, ho =>
          obtain rfl := Option.some.inj ho
          intro D a w hM hsl hdep hDi hcl K hK
          have e0 := (hdep ⟨0, .data⟩ (by simp) rfl).1
          have e3 := (hdep ⟨3, .data⟩ (by simp) rfl).1
          refine ⟨rfl, ?_⟩
          refine wp_val (w' := w) (v := .pointer (some ⟨g, (xa + i) * 6, none⟩)) (by simp only [execOp, Act.eval]; rw [show a.tmps.getD 16 undef = _ from e0, show a.tmps.getD 19 undef = _ from e3]; simp only [Sem.run_bind, ix_sP hxn, Result.andThen_ok, Sem.run_pure]) ?_
          exact hK _ _ rfl (msw_ne (by decide) (by decide) hM) (fun _ _ _ _ h => h)
        | 21, ho =>
          obtain rfl := Option.some.inj ho
          intro D a w hM hsl hdep hDi hcl K hK
          have e20 := (hdep ⟨20, .data⟩ (by simp) rfl).1
          have e13 := (hdep ⟨13, .data⟩ (by simp) rfl).1
          obtain ⟨c, hst, hM2⟩ := msw_1 (s1 := 21) (s2 := 23) (by decide) hxy hxn hDi hM
          refine ⟨rfl, ?_⟩
          refine wp_skp (w' := w.setRow g c) (by simp only [execOp, Act.eval]; rw [show a.tmps.getD 36 undef = _ from e20, show a.tmps.getD 29 undef = _ from e13]; simp only [Sem.run_bind, hst, Result.andThen_ok, Sem.run_pure]) ?_
          exact hK _ _ trivial hM2 (fun _ _ _ _ h => h)
        | 22, ho =>
          obtain rfl := Option.some.inj ho
          intro D a w hM hsl hdep hDi hcl K hK
          have e4 := (hdep ⟨4, .data⟩ (by simp) rfl).1
          have e7 := (hdep ⟨7, .data⟩ (by simp) rfl).1
          refine ⟨rfl, ?_⟩
          refine wp_val (w' := w) (v := .pointer (some ⟨g, (xb + i) * 6, none⟩)) (by simp only [execOp, Act.eval]; rw [show a.tmps.getD 20 undef = _ from e4, show a.tmps.getD 23 undef = _ from e7]; simp only [Sem.run_bind, ix_sP hyn, Result.andThen_ok, Sem.run_pure]) ?_
          exact hK _ _ rfl (msw_ne (by decide) (by decide) hM) (fun _ _ _ _ h => h)
        | 23, ho =>
          obtain rfl := Option.some.inj ho
          intro D a w hM hsl hdep hDi hcl K hK
          have e22 := (hdep ⟨22, .data⟩ (by simp) rfl).1
          have e19 := (hdep ⟨19, .data⟩ (by simp) rfl).1
          obtain ⟨c, hst, hM2⟩ := msw_2 (s1 := 21) (s2 := 23) (by decide) hxy hyn hDi hM
          refine ⟨rfl, ?_⟩
          refine wp_skp (w' := w.setRow g c) (by simp only [execOp, Act.eval]; rw [show a.tmps.getD 37 undef = _ from e22, show a.tmps.getD 35 undef = _ from e19]; simp only [Sem.run_bind, hst, Result.andThen_ok, Sem.run_pure]) ?_
          exact hK _ _ trivial hM2 (fun _ _ _ _ h => h)
        | _ + 24, ho => exact absurd ho (by simp)
      · intro D a wt hall hd hs hM hsl hr hact
        replace hM := msw_11 hxy (hall 21 (by decide)) (hall 23 (by decide)) hM
        simp only [List.filterMap_cons, List.filterMap_nil, List.foldl_cons, List.foldl_nil] at hact
        rw [hact]
        generalize a.tmps.getD 16 undef = y16
        generalize a.tmps.getD 17 undef = y17
        generalize a.tmps.getD 18 undef = y18
        generalize a.tmps.getD 19 undef = y19
        generalize a.tmps.getD 20 undef = y20
        generalize a.tmps.getD 21 undef = y21
        generalize a.tmps.getD 22 undef = y22
        generalize a.tmps.getD 23 undef = y23
        generalize a.tmps.getD 24 undef = y24
        generalize a.tmps.getD 25 undef = y25
        generalize a.tmps.getD 26 undef = y26
        generalize a.tmps.getD 27 undef = y27
        generalize a.tmps.getD 28 undef = y28
        generalize a.tmps.getD 29 undef = y29
        generalize a.tmps.getD 30 undef = y30
        generalize a.tmps.getD 31 undef = y31
        generalize a.tmps.getD 32 undef = y32
        generalize a.tmps.getD 33 undef = y33
        generalize a.tmps.getD 34 undef = y34
        generalize a.tmps.getD 35 undef = y35
        generalize a.tmps.getD 36 undef = y36
        generalize a.tmps.getD 37 undef = y37
        clear hact hsl hr hd hs hall a
        simp only [Act.put, List.setIfInBounds_toArray, List.set_cons_succ, List.set_cons_zero]
        obtain ⟨hR2, hO2⟩ := hM
        rw [hsr.out] at hR2
        have hR3 := hide1 hR2
        have hO3 : Hid (Ob w wt g) := hide1 (hO.out.trans hO2)
        clear hR2 hO2 hsr hadA hadB
        go_wp2
        go_roundw
        case rel => exact ⟨i + 1, by omega, by go_num, hR3, hO3⟩
        case measure => simp [intOf]; omega
    · obtain rfl : i = m := by omega
      go_wp2
      go_end0
      exact ⟨rfl, hR.out, hO.out⟩
set_option maxHeartbeats 4000000 in
set_option maxRecDepth 100000 in
theorem rot_d {w : World} {B g n cap xa xm xb : Nat} {F : Nat → Ep} {fv : Value} (h : Rw w B g n cap F) (ham : xa < xm) (hmb : xm < xb) (hbn : xb ≤ n) (hn : n ≤ 2000000) :
    Calls Tryz.prog 142 #[.slice (some ⟨g, 0, none⟩) n cap, .int .i64 (xa : Nat), .int .i64 (xm : Nat), .int .i64 (xb : Nat), fv] w fun e w' => e = .returned (.tuple #[]) ∧ Rw w' B g n cap (rot F xa xm xb) ∧ Ob w w' g := by
  have h0 := hide1 h
  clear h
  go_enter Tryz.func142, Tryz.ntmps142
  go_wp2_with fail
  go_loopw [10, 11] (fun s10 s11 wr => ∃ (i j : Nat) (G : Nat → Ep), s10 = .int .i64 (i : Nat) ∧ s11 = .int .i64 (j : Nat) ∧ 1 ≤ i ∧ 1 ≤ j ∧ i ≤ xm ∧ xm + j ≤ n ∧ Hid (Rw wr B g n cap G) ∧ Hid (rot G (xm - i) xm (xm + j) = rot F xa xm xb) ∧ Hid (Ob w wr g)) (fun s10 s11 _ => (intOf s10).toNat + (intOf s11).toNat)
  case atStart =>
    exact ⟨xm - xa, xb - xm, F, by congr 1; omega, by congr 1; omega, by omega, by omega, by omega, by omega, h0, hide1 (by congr 1 <;> omega), hide1 (Ob.refl w g)⟩
  case round =>
    obtain ⟨i, j, G, rfl, rfl, hi, hj, him, hjn, hR, hG, hO⟩ := hrel
    rcases Nat.lt_trichotomy i j with hlt | heq | hgt
    · have q1 : ((i : Int) != (j : Int)) = true := by simp; omega
      have q2 : ¬ (j : Int) < (i : Int) := by omega
      have hc := swr_d (fv := fv) (xa := xm - i) (xb := xm + j - i) (m := i) hR.out (by omega) (by omega) hn
      have e1 : ((xm - i : Nat) : Int) = (xm : Int) - (i : Int) := by omega
      have e2 : ((xm + j - i : Nat) : Int) = (xm : Int) + (j : Int) - (i : Int) := by omega
      rw [e1, e2] at hc
      have hG2 : Hid (rot (sr G (xm - i) (xm + j - i) i) (xm - i) xm (xm + (j - i)) = rot F xa xm xb) := hide1 (by rw [rot_lt G hlt him]; exact hG.out)
      replace e1 := hide1 e1
      replace e2 := hide1 e2
      go_wp2_with fail
      refine hc.mono ?_
      rintro e w1 ⟨rfl, hR1, hO1⟩
      have hR2 := hide1 hR1
      have hO2 : Hid (Ob w w1 g) := hide1 (hO.out.trans hO1)
      clear hc hR1 hO1 hR hO hG
      go_wp2
      go_roundw
      case rel => exact ⟨i, j - i, _, rfl, by congr 1; omega, hi, by omega, him, by omega, hR2, hG2, hO2⟩
      case measure => simp [intOf]; omega
    · subst heq
      have q1 : ((i : Int) != (i : Int)) = false := by simp
      have hc := swr_d (fv := fv) (xa := xm - i) (xb := xm) (m := i) hR.out (by omega) (by omega) hn
      have e1 : ((xm - i : Nat) : Int) = (xm : Int) - (i : Int) := by omega
      rw [e1] at hc
      have hG2 : Hid (sr G (xm - i) xm i = rot F xa xm xb) := hide1 (by rw [rot_eq G him]; exact hG.out)
      replace e1 := hide1 e1
      go_wp2_with fail
      refine hc.mono ?_
      rintro e w1 ⟨rfl, hR1, hO1⟩
      rw [hG2.out] at hR1
      have hR2 := hide1 hR1
      have hO2 : Hid (Ob w w1 g) := hide1 (hO.out.trans hO1)
      clear hc hR1 hO1 hR hO hG hG2
      go_wp2
      go_end0
      exact ⟨rfl, hR2.out, hO2.out⟩
    · have q1 : ((i : Int) != (j : Int)) = true := by simp; omega
      have q2 : (j : Int) < (i : Int) := by omega
      have hc := swr_d (fv := fv) (xa := xm - i) (xb := xm) (m := j) hR.out (by omega) (by omega) hn
      have e1 : ((xm - i : Nat) : Int) = (xm : Int) - (i : Int) := by omega
      rw [e1] at hc
      have hG2 : Hid (rot (sr G (xm - i) xm j) (xm - (i - j)) xm (xm + j) = rot F xa xm xb) := hide1 (by rw [rot_gt G hgt him]; exact hG.out)
      replace e1 := hide1 e1
      go_wp2_with fail
      refine hc.mono ?_
      rintro e w1 ⟨rfl, hR1, hO1⟩
      have hR2 := hide1 hR1
      have hO2 : Hid (Ob w w1 g) := hide1 (hO.out.trans hO1)
      clear hc hR1 hO1 hR hO hG
      go_wp2
      go_roundw
      case rel => exact ⟨i - j, j, _, by congr 1; omega, rfl, by omega, hj, by omega, hjn, hR2, hG2, hO2⟩
      case measure => simp [intOf]; omega
end Go.Proofs.YtbemaloaobeblaaGreatDoor

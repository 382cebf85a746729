/- JY, JZ, JSv, KT: laid together. -/
import Derived.Test.YtpkncanbebpknaaGreatDoorProg
import Derived.Shelf.Unicode.ValidAny
import Derived.Lib.LaidU8
import Derived.Lib.LaidTab
import Derived.LaidLaws
import Derived.PinnedBridge
import Derived.Lay
import Derived.LaidMore
import Derived.WalkKit
import Derived.ProofKit
import Derived.OpenShut
import Derived.ChangeOld
import Derived.Test.YtpkncanbebpknaaGreatDoorG4
import Derived.Test.YtpkncanbebpknaaGreatDoorG3
import Derived.Test.YtpkncanbebpknaaGreatDoorRows
namespace Go.Proofs.YtpkncanbebpknaaGreatDoor
open Go.RowKit Go.Shelf
attribute [local go_sem] Oper.semAt_some

section
variable {x u : Operand}
theorem ld_i {w : World} {b o : Nat} {v : Value} (h1 : w.cell? ⟨b, o, none⟩ = some v) : (Instr.loadAt 3 (.pointer (some ⟨b, o, none⟩))).run Tryz.prog w = .ok v w := by
  simp [Instr.loadAt, Instr.sureAddr, go_sem, h1]
theorem gq_i {k n : Nat} (h : k < n) (w : World) : (binOp .geq 3 (.int .i64 (k : Int)) (.int .i64 (n : Int))).run Tryz.prog w = .ok (.bool false) w := by
  simp [binOp, go_sem]
  omega
theorem eg_i (a b : Value) (w : World) : (eqGuard .geq 3 x u a b).run Tryz.prog w = .ok () w := by
  simp [eqGuard, go_sem]
end
set_option maxHeartbeats 4000000 in
set_option maxRecDepth 100000 in
theorem jnames_obj {w : World} {ki : Int} {s : List UInt8} {l : List T} {p : List (List UInt8 × T)} {c : Array Value} {nm : List UInt8} {most : Int} (hv : VA (· < w.heap.size) w (.mk 5 ki s l p) c.toList) (hT : Ev w) (h8 : 8 ≤ w.heap.size) :
    Calls Tryz.prog 6 #[.agg c, .string (st nm), .int .i64 most] w fun e w' => e = .returned (.bool true) ∧ Below w.heap.size w w' := by
  have hc5 : c.size = 5 := by have := hv.len; simpa using this
  obtain ⟨x0, x1, x2, x3, x4, rfl⟩ := arr5 hc5
  have hv : VA (· < w.heap.size) w (.mk 5 ki s l p) [x0, x1, x2, x3, x4] := hv
  have hv0 := hv
  cases hv0 with
  | @mk _ _ _ _ _ _ _ cl cp q1 q2 e1 e2 hl hp1 hp2 =>
  have q2 := hide1 q2
  have hp1 := hide1 hp1
  have hp2 := hide1 hp2
  clear hl q1 e1
  obtain ⟨w1, hw1⟩ : ∃ w1, w1 = ((w.alloc (.cells #[.int .i64 5, .int .i64 ki, .string (st s), x3, x4] 28)).alloc (.cells #[.int .i64 most] 3)).alloc (.cells #[.bool false] 4) := ⟨_, rfl⟩
  have hsz1 : w1.heap.size = w.heap.size + 3 := by rw [hw1]; simp
  have hb1 : Below w.heap.size w w1 := by rw [hw1]; exact ((below_one w _).alloc (by simp) _).alloc (by simp; omega) _
  have r0 : w1.heap[w.heap.size]? = some (.cells #[.int .i64 5, .int .i64 ki, .string (st s), x3, x4] 28 (0, 0)) := by
    rw [hw1]
    show (((w.heap.push _).push _).push _)[w.heap.size]? = _
    exact (push3 _ _ _ _).1
  have r1 : w1.heap[w.heap.size + 1]? = some (.cells #[.int .i64 most] 3 (0, 0)) := by
    rw [hw1]
    show (((w.heap.push _).push _).push _)[w.heap.size + 1]? = _
    exact (push3 _ _ _ _).2.1
  have r2 : w1.heap[w.heap.size + 2]? = some (.cells #[.bool false] 4 (0, 0)) := by
    rw [hw1]
    show (((w.heap.push _).push _).push _)[w.heap.size + 2]? = _
    exact (push3 _ _ _ _).2.2
  obtain ⟨h, hht⟩ := hv.ht
  replace hv := hide1 hv
  refine (callsIn_wide (n := 8)).1 ?_
  refine callsIn_of_wp_marks Tryz.func6 rfl trivial ?_ rfl
  simp only [Tryz.ntmps6, List.size_toArray, List.length_cons, List.length_nil, Nat.reduceAdd, Nat.reduceSub, Array.replicate_succ, Array.replicate_zero, List.push_toArray, List.append_toArray, List.nil_append, List.cons_append]
  gi_wp2
  rw [← hw1]
  refine ⟨trivial, (callsIn_wide.2 (alive_j (hT.below hb1 (by omega)) (by omega))).mono ?_⟩
  rintro e w2 ⟨rfl, hb2⟩
  replace r0 := kp hb2 r0
  replace r1 := kp hb2 r1
  replace r2 := kp hb2 r2
  have hs2 := hb2.size
  replace hb2 := bl2 hb1 hb2
  clear hb1 hw1
  obtain ⟨l0, l1, l2, l3, l4⟩ := c5 r0
  gi_wp2
  refine ⟨trivial, (callsIn_wide.2 (many_d h (c := [.int .i64 5, .int .i64 ki, .string (st s), x3, x4]) (k := 300) hht (by omega) (hv.out.frame (G := (· < w.heap.size)) (fun j _ hj => hb2.block j hj) (fun _ h _ => h)))).mono ?_⟩
  rintro e w3 ⟨rfl, hb3⟩
  replace r0 := kp hb3 r0
  replace r1 := kp hb3 r1
  replace r2 := kp hb3 r2
  have hs3 := hb3.size
  replace hb3 := bl2 hb2 hb3
  clear hb2 l0 l1 l2 l3 l4
  obtain ⟨d2, f2⟩ := c1 r2
  obtain ⟨mn, hmn⟩ : ∃ mn, Hid (mn = mny h (.mk 5 ki s l p) 300) := ⟨_, hide1 rfl⟩
  rw [← hmn.out]
  by_cases hM : 300 < mn
  · have hc := (c1 (set1 r2 (.bool true))).1
    have hbb := hide1 (hb3.setCell (p := ⟨w.heap.size + 1 + 1, 0, none⟩) (by show w.heap.size ≤ w.heap.size + 1 + 1; omega) (.bool true))
    gi_wp2
    exact ⟨_, results_b rfl _ rfl hc, rfl, hbb.out⟩
  have hgt0 := mny_hgt hht (show 300 ≤ 1000000 by omega) (by rw [← hmn.out]; omega)
  obtain ⟨m0, hm0, e0⟩ : ∃ m0 : Nat, m0 < 20 ∧ (IntKind.u64.wrap most).tmod 20 = (m0 : Int) := by
    have h1 : 0 ≤ IntKind.u64.wrap most := by
      simp only [IntKind.wrap, IntKind.bits, IntKind.signed]
      simp
      omega
    rw [Int.tmod_eq_emod_of_nonneg h1]
    exact ⟨(IntKind.u64.wrap most % 20).toNat, by omega, by omega⟩
  obtain ⟨d1, f1⟩ := c1 r1
  obtain ⟨l0, l1, l2, l3, l4⟩ := c5 r0
  have hz3 : w.heap.size + 3 ≤ w3.heap.size := by omega
  obtain ⟨w4, hw4⟩ : ∃ w4, w4 = w3.setCell ⟨w.heap.size + 1, 0, none⟩ (.int .i64 (1 + (m0 : Int))) := ⟨_, rfl⟩
  have hs4 : w.heap.size + 3 ≤ w4.heap.size := by rw [hw4]; simpa using hz3
  have r04 := seto (b := w.heap.size + 1) r0 (by omega) (.int .i64 (1 + (m0 : Int)))
  have r14 := set1 r1 (.int .i64 (1 + (m0 : Int)))
  have r24 := seto (b := w.heap.size + 1) r2 (by omega) (.int .i64 (1 + (m0 : Int)))
  rw [← hw4] at r04 r14 r24
  have hb4 : Below w.heap.size w w4 := by rw [hw4]; exact hb3.setCell (by show w.heap.size ≤ w.heap.size + 1; omega) _
  obtain ⟨l0', l1', l2', l3', l4'⟩ := c5 r04
  rw [hw4] at l0' l1' l2' l3' l4'
  clear r0 r1 r2 hb3
  have hva4 := hide1 (hv.out.frame (w' := w4) (G := (· < w.heap.size)) (fun j _ hj => hb4.block j hj) (fun _ h _ => h))
  gi_wp2
  rw [← hw4]
  refine ⟨trivial, (callsIn_wide.2 (get_d (n := 299) (nm := nm) (hgt_mono (by omega) hgt0) (by omega) hva4.out)).mono ?_⟩
  rintro e w5 ⟨cg, rfl, hcg5, hcg1, hb5, hcg⟩
  obtain ⟨tg, htg⟩ : ∃ tg, Hid (tg = (getP 5 p nm).getD tz) := ⟨_, hide1 rfl⟩
  have hgtg : hgt 299 tg := by rw [htg.out]; exact getP_hgt (ki := ki) (s := s) (l := l) hgt0 (by omega)
  have hvg : VA (fun _ => True) w5 tg cg.toList := by
    rw [htg.out]
    rcases hcg with ⟨t', e, hv'⟩ | ⟨e, rfl⟩
    · rw [e]; exact hv'.frame (fun _ _ _ => rfl) (fun _ _ _ => trivial)
    · rw [e]; exact zV_is
  clear hcg
  obtain ⟨g0, g1, g2, g3, g4, rfl⟩ := arr5 hcg5
  replace r04 := kp hb5 r04
  replace r14 := kp hb5 r14
  replace r24 := kp hb5 r24
  have hs5 := hb5.size
  replace hb5 := bl2 hb4 hb5
  clear hb4 l0 l1 l2 l3 l4 l0' l1' l2' l3' l4' d1 f1 hva4 hw4 d2 f2 hcg5
  obtain ⟨hr7, r36, hb6, hs6⟩ := lay5 (w := w5) (c := #[g0, g1, g2, g3, g4])
  have r06 := kp hb6 r04
  have r16 := kp hb6 r14
  have r26 := kp hb6 r24
  have hb6 := bl2 hb5 hb6
  have hvg6 : VA (fun _ => True) _ tg [g0, g1, g2, g3, g4] := hvg.frame (fun j _ hj => (lay5 (w := w5) (c := #[g0, g1, g2, g3, g4])).2.2.1.block j hj) (fun _ h _ => h)
  obtain ⟨l0, l1, l2, l3, l4⟩ := c5 r06
  have hva6 := hide1 (hv.out.frame (G := (· < w.heap.size)) (fun j _ hj => hb6.block j hj) (fun _ h _ => h))
  obtain ⟨og, hog⟩ : ∃ og, Hid (og = getP 5 p nm) := ⟨_, hide1 rfl⟩
  rw [← hog.out]
  replace r06 := hide1 r06
  replace r16 := hide1 r16
  replace r26 := hide1 r26
  replace r36 := hide1 r36
  replace hvg6 := hide1 hvg6
  replace hb6 := hide1 hb6
  clear r04 r14 r24 hvg hb5
  gi_wp2_with (refine wpListIn_str rfl 28 (.tmp 7) (.tmp 29) rfl w5.heap.size #[g0, g1, g2, g3, g4] rfl rfl 28 _ hr7 (by kernel_rfl) rfl hcg1 ?_)
  generalize hw6 : (w5.alloc _).setRow _ _ = w6 at *
  clear hw6 hr7 l0 l1 l2 l3 l4 hcg1
  refine ⟨trivial, (callsIn_wide.2 (get_r (nm := nm) (F := (· < w.heap.size)) (hgt0.2.1) hva6.out)).mono ?_⟩
  rintro e w7 ⟨ch, rfl, hb7, hch⟩
  rw [← hog.out] at hch ⊢
  have hvh : VA (fun _ => True) w7 tg ch.toList := by
    rw [htg.out, ← hog.out]
    rcases hch with ⟨t', e, hv'⟩ | ⟨e, rfl⟩
    · rw [e]; exact hv'.frame (fun _ _ _ => rfl) (fun _ _ _ => trivial)
    · rw [e]; exact zV_is
  clear hch
  have hch5 : ch.size = 5 := by have := hvh.len; simpa using this
  have hch1 := hvh.one
  obtain ⟨u0, u1, u2, u3, u4, rfl⟩ := arr5 hch5
  have hvh : VA (fun _ => True) w7 tg [u0, u1, u2, u3, u4] := hvh
  have r07 := kp hb7 r06.out
  have r17 := kp hb7 r16.out
  have r27 := kp hb7 r26.out
  have r37 := kp hb7 r36.out
  have hvg7 : VA (fun _ => True) w7 tg [g0, g1, g2, g3, g4] := hvg6.out.frame (fun j _ hj => hb7.block j hj) (fun _ h _ => h)
  have hs7 := hb7.size
  replace hb7 := bl2 hb6.out hb7
  clear r06 r16 r26 r36 hvg6 hb6 hva6 hch5
  obtain ⟨hr7, r48, hb8, hs8⟩ := lay5 (w := w7) (c := #[u0, u1, u2, u3, u4])
  have r08 := hide1 (kp hb8 r07)
  have r18 := hide1 (kp hb8 r17)
  have r28 := hide1 (kp hb8 r27)
  have r38 := kp hb8 r37
  have hvg8 := hide1 (hvg7.frame (G := fun _ => True) (fun j _ hj => hb8.block j hj) (fun _ h _ => h))
  have hvh8 := hide1 (hvh.frame (G := fun _ => True) (fun j _ hj => hb8.block j hj) (fun _ h _ => h))
  replace hb8 := hide1 (bl2 hb7 hb8)
  obtain ⟨l0, l1, l2, l3, l4⟩ := c5 r38
  obtain ⟨k0, k1, k2, k3, k4⟩ := c5 r48
  replace r38 := hide1 r38
  replace r48 := hide1 r48
  clear r07 r17 r27 r37 hvg7 hvh hb7
  gi_wp2_with (refine wpListIn_str rfl 28 (.tmp 9) (.tmp 35) rfl w7.heap.size #[u0, u1, u2, u3, u4] rfl rfl 28 _ hr7 (by kernel_rfl) rfl (by simpa using hch1) ?_)
  generalize hw8 : (w7.alloc _).setRow _ _ = w8 at *
  refine ⟨trivial, (callsIn_wide.2 (ex_d 299 hgtg hvg8.out hvh8.out)).mono ?_⟩
  rintro e w9 ⟨rfl, hb9⟩
  have hex : exB 299 tg tg = true := (exB_eq (hgt_ht hgtg)).2 rfl
  rw [hex]
  have r09 := kp hb9 r08.out
  have r19 := kp hb9 r18.out
  have r29 := kp hb9 r28.out
  replace hb9 := bl2 hb8.out hb9
  clear hw8 hr7 r48 r38 l0 l1 l2 l3 l4 k0 k1 k2 k3 k4 hvg8 hvh8 hb8 r08 r18 r28 hex hch1
  obtain ⟨pa, pc, rfl⟩ : ∃ va vc, x4 = .slice va p.length vc := by
    rw [← e2]
    obtain ⟨_, ⟨a, cap, h1, h2⟩ | ⟨b, o, cap, cur, fz, h1, _⟩⟩ := q2.out
    · exact ⟨a, cap, by rw [h1, h2]; rfl⟩
    · exact ⟨_, cap, h1⟩
  replace e2 := hide1 e2
  obtain ⟨wa, hwa⟩ : ∃ wa, wa = (w9.alloc (.cells #[.int .i64 0] 3)).alloc (.cells #[.int .i64 0] 3) := ⟨_, rfl⟩
  have hs9 : w.heap.size + 3 ≤ w9.heap.size := by have := (Array.getElem?_eq_some_iff.1 r29).1; omega
  have hba : Below w9.heap.size w9 wa := by rw [hwa]; exact (below_one w9 _).alloc (by simp) _
  have hsa : wa.heap.size = w9.heap.size + 2 := by rw [hwa]; simp
  have hLa : Ln w w9.heap.size #[.int .i64 5, .int .i64 ki, .string (st s), x3, .slice pa p.length pc] (1 + (m0 : Int)) 0 0 wa := by
    refine ⟨kp hba r09, kp hba r19, kp hba r29, ?_, ?_, bl2 hb9 hba⟩
    · rw [hwa]
      show ((w9.heap.push _).push _)[w9.heap.size]? = _
      rw [Array.getElem?_push, if_neg (by simp), Array.getElem?_push, if_pos rfl]
    · rw [hwa]
      show ((w9.heap.push _).push _)[w9.heap.size + 1]? = _
      rw [Array.getElem?_push, if_pos (by simp)]
  obtain ⟨wb, hwb⟩ : ∃ wb, wb = (w9.alloc (.cells #[.int .i64 0] 3)).alloc (.cells #[.int .i64 (p.length : Int)] 3) := ⟨_, rfl⟩
  have hbb9 : Below w9.heap.size w9 wb := by rw [hwb]; exact (below_one w9 _).alloc (by simp) _
  have hsb : wb.heap.size = w9.heap.size + 2 := by rw [hwb]; simp
  have hLb : Ln w w9.heap.size #[.int .i64 5, .int .i64 ki, .string (st s), x3, .slice pa p.length pc] (1 + (m0 : Int)) 0 (p.length : Int) wb := by
    refine ⟨kp hbb9 r09, kp hbb9 r19, kp hbb9 r29, ?_, ?_, bl2 hb9 hbb9⟩
    · rw [hwb]
      show ((w9.heap.push _).push _)[w9.heap.size]? = _
      rw [Array.getElem?_push, if_neg (by simp), Array.getElem?_push, if_pos rfl]
    · rw [hwb]
      show ((w9.heap.push _).push _)[w9.heap.size + 1]? = _
      rw [Array.getElem?_push, if_pos (by simp)]
  clear r09 r19 r29 hb9 hba hbb9
  obtain ⟨l0, l1, l2, l3, l4⟩ := c5 hLa.r0
  rw [hwa] at l0 l1 l2 l3 l4
  obtain ⟨m0', m1', m2', m3', m4'⟩ := c5 hLb.r0
  rw [hwb] at m0' m1' m2' m3' m4'
  have hva := hide1 (hv.out.frame (w' := wb) (G := (· < w.heap.size)) (fun j _ hj => hLb.bw.block j hj) (fun _ h _ => h))
  have hlp : p.length ≤ 1000000 := hgt0.2.1
  replace hLa := hide1 hLa
  replace hLb := hide1 hLb
  gi_wp2
  rw [← hwb]
  refine ⟨trivial, (callsIn_wide.2 (names_d (n := 300) hgt0 (by omega) hva.out)).mono ?_⟩
  rintro e wn ⟨bx, cn, rfl, hbx, hcn5, hrx, hbn, hvn⟩
  have hLn := hLb.out.keep hbn
  have hsn := hbn.size
  have hsq := names_seq (n := 5) (m := 299) (G := fun j => wb.heap.size ≤ j ∧ j ≠ bx) (by omega) hrx hgt0 hvn
  unfold npr at hsq
  rw [if_pos rfl] at hsq
  have hxl := (Array.getElem?_eq_some_iff.1 hrx).1
  clear l0 l1 l2 l3 l4 hva hLa hLb hwa hwb hvn hrx m0' m1' m2' m3' m4'
  gi_wp2
  refine range_z (n := 6) (w := wn) (gf := 33) (lb := #[.pointer (some ⟨bx, 0, none⟩)]) rfl (fun _ _ => by kernel_rfl) hsq (fun j hj => by rcases hj with hj | hj <;> omega)
    (fun k W' => k ≤ p.length ∧ k ≤ m0 ∧ Ln w w9.heap.size #[.int .i64 5, .int .i64 ki, .string (st s), x3, .slice pa p.length pc] (1 + (m0 : Int)) (k : Int) (p.length : Int) W')
    (fun c k W' => c = .exit 0 ∧ k = m0 ∧ Ln w w9.heap.size #[.int .i64 5, .int .i64 ki, .string (st s), x3, .slice pa p.length pc] (1 + (m0 : Int)) ((k : Int) + 1) (p.length : Int) W') ?hI ?hIx ⟨by omega, by omega, hLn⟩ ?round ?done ?stop
  case hI =>
    rintro k A B row ⟨e, e', hj⟩ hg hr
    exact ⟨e, e', hj.grown (B := wn.heap.size) hg (fun r e => (hr r e).1) (by omega) (by omega)⟩
  case hIx =>
    rintro c k A B row ⟨e, e', hj⟩ hg hr
    exact ⟨e, e', hj.grown (B := wn.heap.size) hg (fun r e => (hr r e).1) (by omega) (by omega)⟩
  case done =>
    rintro D W' hD ⟨_, hm, hj⟩ hK
    obtain ⟨d1, _⟩ := c1 hj.r1
    obtain ⟨d2, f2⟩ := c1 hj.r2
    obtain ⟨d5, _⟩ := c1 hj.r5
    obtain ⟨d6, _⟩ := c1 hj.r6
    have hmin : min (1 + (m0 : Int)) (p.length : Int) = (p.length : Int) := by omega
    have hDK := hide1 (seto (b := w.heap.size + 1 + 1) hK (by omega) (.bool true))
    have hrr := hide1 (set1 hj.r2 (.bool true))
    have hbb := hide1 (hj.bw.setCell (p := ⟨w.heap.size + 1 + 1, 0, none⟩) (by show w.heap.size ≤ w.heap.size + 1 + 1; omega) (.bool true))
    replace hj := hide1 hj
    gi_wp2
    refine ⟨by simp, .inl ⟨_, _, rfl, run_takeDeferred hDK.out, ?_⟩⟩
    exact ⟨_, results_b rfl _ rfl (c1 ((World.putObj_heap_other (by omega)).trans hrr.out)).1, rfl, blw_done hbb.out (by omega) hDK.out⟩
  case stop =>
    rintro D c k W' hD hk ⟨rfl, e', hj⟩ hK
    obtain ⟨d1, _⟩ := c1 hj.r1
    obtain ⟨d2, f2⟩ := c1 hj.r2
    obtain ⟨d5, _⟩ := c1 hj.r5
    obtain ⟨d6, _⟩ := c1 hj.r6
    have hmin : min (1 + (m0 : Int)) (p.length : Int) = (k : Int) + 1 := by omega
    have hDK := hide1 (seto (b := w.heap.size + 1 + 1) hK (by omega) (.bool true))
    have hrr := hide1 (set1 hj.r2 (.bool true))
    have hbb := hide1 (hj.bw.setCell (p := ⟨w.heap.size + 1 + 1, 0, none⟩) (by show w.heap.size ≤ w.heap.size + 1 + 1; omega) (.bool true))
    replace hj := hide1 hj
    gi_wp2
    refine ⟨by simp, .inl ⟨_, _, rfl, run_takeDeferred hDK.out, ?_⟩⟩
    exact ⟨_, results_b rfl _ rfl (c1 ((World.putObj_heap_other (by omega)).trans hrr.out)).1, rfl, blw_done hbb.out (by omega) hDK.out⟩
  case round =>
    rintro l' k hk x y Wr Kq hz ⟨hk1, hk2, hL⟩ ⟨q, cq, hqk, rfl, rfl, hcq5, hvq⟩ hK
    obtain ⟨z0, z1, z2, z3, z4, rfl⟩ := arr5 hcq5
    have hvq : VA (wn.heap.size + 2 ≤ ·) Wr q.2 [z0, z1, z2, z3, z4] := hvq
    have hon := hide1 hvq.one
    obtain ⟨hr7, r7, hb7, hs7⟩ := lay5 (w := Wr) (c := #[z0, z1, z2, z3, z4])
    replace r7 := hide1 r7
    clear hL
    gi_wp2_with (refine wpListIn_str rfl 28 (.tmp 14) (.tmp 55) rfl Wr.heap.size #[z0, z1, z2, z3, z4] rfl rfl 28 _ hr7 (by kernel_rfl) rfl (by simpa using hon.out) ?_)
    refine hK _ _ hb7 ?_
    rintro W3 hsame hs2 ⟨_, _, hL3⟩
    have h72 := (hsame Wr.heap.size (by omega)).trans r7.out
    have hkp : k < cp.length := by have := e2.out; omega
    obtain ⟨ce, hce⟩ : ∃ ce, cp[k]? = some ce := ⟨_, List.getElem?_eq_getElem hkp⟩
    have hce6 := q2.out.1 ce (List.mem_of_getElem? hce)
    have hn1 := hp1.out k q ce hqk hce
    have hv1 := hp2.out k q ce hqk hce
    obtain ⟨b, o, cap', hpa, hbl, hbl2, hrg⟩ := q2.out.at hce
    obtain ⟨y, y0, y1, y2, y3, y4, rfl⟩ := arr6 hce6
    have hy : y = .string (st q.1) := by simpa using hn1
    subst hy
    have hv1 : VA (· < w.heap.size) w q.2 [y0, y1, y2, y3, y4] := hv1
    obtain ⟨rfl, rfl⟩ : pa = some ⟨b, o, none⟩ ∧ pc = cap' := by
      have := hpa; simp at this; exact ⟨this.1, this.2.2⟩
    have cc : ∀ i v, ([.string (st q.1), y0, y1, y2, y3, y4] : List Value)[i]? = some v → W3.cell? ⟨b, o + k * 6 + i, none⟩ = some v := fun i v h => (hL3.bw.cell (show b < w.heap.size from hbl)).trans (hrg i v h)
    have t0 := cc 0 _ rfl
    have t1 := cc 1 _ rfl
    have t2 := cc 2 _ rfl
    have t3 := cc 3 _ rfl
    have t4 := cc 4 _ rfl
    have t5 := cc 5 _ rfl
    have t0' : W3.cell? ⟨b, o + k * 6, none⟩ = some (.string (st q.1)) := t0
    have t2' : W3.cell? ⟨b, o + k * 6 + 1 + 1, none⟩ = some y1 := t2
    have t3' : W3.cell? ⟨b, o + k * 6 + 1 + 2, none⟩ = some y2 := t3
    have t4' : W3.cell? ⟨b, o + k * 6 + 1 + 3, none⟩ = some y3 := t4
    have t5' : W3.cell? ⟨b, o + k * 6 + 1 + 4, none⟩ = some y4 := t5
    have hkl : k < p.length := hk
    obtain ⟨l0, l1, l2, l3, l4⟩ := c5 h72
    obtain ⟨d1, _⟩ := c1 hL3.r1
    obtain ⟨d5, f5⟩ := c1 hL3.r5
    obtain ⟨d6, _⟩ := c1 hL3.r6
    have v4 := (c5 hL3.r0).2.2.2.2
    have hvq3 : VA (wn.heap.size + 2 ≤ ·) W3 q.2 [z0, z1, z2, z3, z4] := hvq.frame (fun j hj hjl => (hsame j (by have h1 : wn.heap.size + 2 ≤ j := hj; omega)).trans (hb7.block j hjl)) (fun _ h _ => h)
    have hv13 : VA (· < w.heap.size) W3 q.2 [y0, y1, y2, y3, y4] := hv1.frame (fun j _ hj => hL3.bw.block j hj) (fun _ h _ => h)
    have hgq : hgt 299 q.2 := hgt0.2.2.2 q (List.mem_of_getElem? hqk)
    have hexc : ∀ Wx, Below W3.heap.size W3 Wx → Calls Tryz.prog 14 #[.agg #[z0, z1, z2, z3, z4], .agg #[y0, y1, y2, y3, y4]] Wx fun e W4 => e = .returned (.bool true) ∧ Below Wx.heap.size Wx W4 := fun Wx hx => by
      refine (ex_d 299 (c := [z0, z1, z2, z3, z4]) (c' := [y0, y1, y2, y3, y4]) hgq (hvq3.frame (G := (wn.heap.size + 2 ≤ ·)) (fun j _ hj => hx.block j hj) (fun _ h _ => h)) (hv13.frame (G := (· < w.heap.size)) (fun j _ hj => hx.block j hj) (fun _ h _ => h))).mono ?_
      rintro e W4 ⟨rfl, h4⟩
      exact ⟨by rw [(exB_eq (hgt_ht hgq)).2 rfl], h4⟩
    have hrz : Hid (∀ wa, Below W3.heap.size W3 wa → wa.rangeAt Wr.heap.size 0 [z0, z1, z2, z3, z4]) := hide1 fun wa h => by
      have h1 := kp h h72
      intro j v hj
      rw [Nat.zero_add]
      have hjl := (List.getElem?_eq_some_iff.1 hj).1
      simpa [World.cell?, h1] using hj
    have hry : Hid (∀ wa, Below W3.heap.size W3 wa → wa.rangeAt b (o + k * 6 + 1) [y0, y1, y2, y3, y4]) := hide1 fun wa h j v hj => by
      have h1 := cc (j + 1) v (by simpa using hj)
      rw [show o + k * 6 + (j + 1) = o + k * 6 + 1 + j by omega] at h1
      exact (h.cell (show b < W3.heap.size by have := hL3.bw.size; omega)).trans h1
    have u0' := t0'
    have hW3s : w9.heap.size + 2 ≤ W3.heap.size := by have := (Array.getElem?_eq_some_iff.1 hL3.r6).1; omega
    have hbW : b < W3.heap.size := by have := hL3.bw.size; omega
    replace hL3 := hide1 hL3
    replace hsame := hide1 hsame
    clear cc t0 t1 t2 t3 t4 t5 t0' t2' t3' t4' t5' l0 l1 l2 l3 l4
    clear hvq3 hv13 hv1 hvq hrg hpa hce h72 hK hr7 hb7 hn1
    gi_wp2
    refine wpIn_flowG (fun _ => trivial) 23 _ _ (by kernel_rfl) (by kernel_rfl) (by kernel_rfl) rfl (fun j v _ => v = ([(.int .i64 (k : Int)), (.int .i64 (p.length : Int)), (.bool false), (.bool false), (.string (st q.1)), (.pointer (some ⟨w.heap.size, 4, none⟩)), (.slice (some ⟨b, o, none⟩) p.length pc), (.int .i64 (k : Int)), (.pointer (some ⟨b, o + k * 6, none⟩)), (.pointer (some ⟨b, o + k * 6, none⟩)), (.string (st q.1)), (.bool false), (.bool false), (.bool false), (.agg #[z0, z1, z2, z3, z4]), (.pointer (some ⟨w.heap.size, 4, none⟩)), (.slice (some ⟨b, o, none⟩) p.length pc), (.int .i64 (k : Int)), (.pointer (some ⟨b, o + k * 6, none⟩)), (.pointer (some ⟨b, o + k * 6 + 1, none⟩)), (.agg #[y0, y1, y2, y3, y4]), (.bool true), (.bool false)] : List Value).getD j undef) (fun i v w w' h _ => h) ?_ ?_
    · intro j op hop hj a wa hwa hsz hsl hdep K hK
      match j, hop with
        | 0, hop =>
          obtain rfl := Option.some.inj hop
          have tq : a.tmps.getD 11 undef = .pointer (some ⟨w9.heap.size, 0, none⟩) := hsl 11 rfl
          have hc := (hwa.cell (p := ⟨w9.heap.size, 0, none⟩) (show w9.heap.size < W3.heap.size by omega)).trans d5
          exact .plain rfl (wpIn_val (fun _ => trivial) (fun c h => by cases h) (w' := wa) (v := (.int .i64 (k : Int))) (by simp only [execOp, Act.eval]; rw [show a.tmps.getD 11 undef = _ from tq]; simp only [Sem.run_bind, ld_i hc, Result.andThen_ok, Sem.run_pure]) (hK _ _ (Below.refl _ _) rfl))
        | 1, hop =>
          obtain rfl := Option.some.inj hop
          have tq : a.tmps.getD 12 undef = .pointer (some ⟨w9.heap.size + 1, 0, none⟩) := hsl 12 rfl
          have hc := (hwa.cell (p := ⟨w9.heap.size + 1, 0, none⟩) (show w9.heap.size + 1 < W3.heap.size by omega)).trans d6
          exact .plain rfl (wpIn_val (fun _ => trivial) (fun c h => by cases h) (w' := wa) (v := (.int .i64 (p.length : Int))) (by simp only [execOp, Act.eval]; rw [show a.tmps.getD 12 undef = _ from tq]; simp only [Sem.run_bind, ld_i hc, Result.andThen_ok, Sem.run_pure]) (hK _ _ (Below.refl _ _) rfl))
        | 2, hop =>
          obtain rfl := Option.some.inj hop
          have t0 : a.tmps.getD 56 undef = (.int .i64 (k : Int)) := hdep 0 _ 56 rfl rfl ⟨⟨0, .data⟩, by simp, rfl, rfl⟩
          have t1 : a.tmps.getD 57 undef = (.int .i64 (p.length : Int)) := hdep 1 _ 57 rfl rfl ⟨⟨1, .data⟩, by simp, rfl, rfl⟩
          exact .plain rfl (wpIn_val (fun _ => trivial) (fun c h => by cases h) (w' := wa) (v := (.bool false)) (by simp only [execOp, Act.eval]; rw [show a.tmps.getD 56 undef = _ from t0, show a.tmps.getD 57 undef = _ from t1]; simp only [Sem.run_bind, eg_i, gq_i hkl, Result.andThen_ok, Sem.run_pure]) (hK _ _ (Below.refl _ _) rfl))
        | 3, hop =>
          obtain rfl := Option.some.inj hop
          have t2 : a.tmps.getD 58 undef = (.bool false) := hdep 2 _ 58 rfl rfl ⟨⟨2, .data⟩, by simp, rfl, rfl⟩
          exact .plain rfl (wpIn_val (fun _ => trivial) (fun c h => by cases h) (w' := wa) (v := (.bool false)) (by simp only [execOp, Act.eval]; rw [show a.tmps.getD 58 undef = _ from t2]; rfl) (hK _ _ (Below.refl _ _) rfl))
        | 4, hop =>
          obtain rfl := Option.some.inj hop
          have gg : a.tmps.getD 59 undef = .bool false := hdep 3 _ 59 rfl rfl ⟨⟨3, .guard⟩, by simp, rfl, rfl⟩
          have tq : a.tmps.getD 13 undef = (.string (st q.1)) := hsl 13 rfl
          exact .want rfl rfl (by rw [hsz]; simp) gg (wpIn_val (fun _ => trivial) (fun c h => by cases h) (w' := wa) (v := (.string (st q.1))) (by simp only [execOp, Act.eval]; rw [show a.tmps.getD 13 undef = _ from tq]; rfl) (hK _ _ (Below.refl _ _) rfl))
        | 5, hop =>
          obtain rfl := Option.some.inj hop
          have gg : a.tmps.getD 59 undef = .bool false := hdep 3 _ 59 rfl rfl ⟨⟨3, .guard⟩, by simp, rfl, rfl⟩
          have tq : a.tmps.getD 3 undef = .pointer (some ⟨w.heap.size, 0, none⟩) := hsl 3 rfl
          exact .want rfl rfl (by rw [hsz]; simp) gg (wpIn_val (fun _ => trivial) (fun c h => by cases h) (w' := wa) (v := (.pointer (some ⟨w.heap.size, 4, none⟩))) (by simp only [execOp, Act.eval]; rw [show a.tmps.getD 3 undef = _ from tq]; kernel_rfl) (hK _ _ (Below.refl _ _) rfl))
        | 6, hop =>
          obtain rfl := Option.some.inj hop
          have gg : a.tmps.getD 59 undef = .bool false := hdep 3 _ 59 rfl rfl ⟨⟨3, .guard⟩, by simp, rfl, rfl⟩
          have t5 : a.tmps.getD 61 undef = (.pointer (some ⟨w.heap.size, 4, none⟩)) := hdep 5 _ 61 rfl rfl ⟨⟨5, .data⟩, by simp, rfl, rfl⟩
          have hc := (hwa.cell (p := ⟨w.heap.size, 4, none⟩) (show w.heap.size < W3.heap.size by omega)).trans v4
          exact .want rfl rfl (by rw [hsz]; simp) gg (wpIn_val (fun _ => trivial) (fun c h => by cases h) (w' := wa) (v := (.slice (some ⟨b, o, none⟩) p.length pc)) (by simp only [execOp, Act.eval]; rw [show a.tmps.getD 61 undef = _ from t5]; simp only [Sem.run_bind, ld_sP hc, Result.andThen_ok, Sem.run_pure]) (hK _ _ (Below.refl _ _) rfl))
        | 7, hop =>
          obtain rfl := Option.some.inj hop
          have gg : a.tmps.getD 59 undef = .bool false := hdep 3 _ 59 rfl rfl ⟨⟨3, .guard⟩, by simp, rfl, rfl⟩
          have tq : a.tmps.getD 11 undef = .pointer (some ⟨w9.heap.size, 0, none⟩) := hsl 11 rfl
          have hc := (hwa.cell (p := ⟨w9.heap.size, 0, none⟩) (show w9.heap.size < W3.heap.size by omega)).trans d5
          exact .want rfl rfl (by rw [hsz]; simp) gg (wpIn_val (fun _ => trivial) (fun c h => by cases h) (w' := wa) (v := (.int .i64 (k : Int))) (by simp only [execOp, Act.eval]; rw [show a.tmps.getD 11 undef = _ from tq]; simp only [Sem.run_bind, ld_i hc, Result.andThen_ok, Sem.run_pure]) (hK _ _ (Below.refl _ _) rfl))
        | 8, hop =>
          obtain rfl := Option.some.inj hop
          have gg : a.tmps.getD 59 undef = .bool false := hdep 3 _ 59 rfl rfl ⟨⟨3, .guard⟩, by simp, rfl, rfl⟩
          have t6 : a.tmps.getD 62 undef = (.slice (some ⟨b, o, none⟩) p.length pc) := hdep 6 _ 62 rfl rfl ⟨⟨6, .data⟩, by simp, rfl, rfl⟩
          have t7 : a.tmps.getD 63 undef = (.int .i64 (k : Int)) := hdep 7 _ 63 rfl rfl ⟨⟨7, .data⟩, by simp, rfl, rfl⟩
          exact .want rfl rfl (by rw [hsz]; simp) gg (wpIn_val (fun _ => trivial) (fun c h => by cases h) (w' := wa) (v := (.pointer (some ⟨b, o + k * 6, none⟩))) (by simp only [execOp, Act.eval]; rw [show a.tmps.getD 62 undef = _ from t6, show a.tmps.getD 63 undef = _ from t7]; simp only [Sem.run_bind, ix_oP hkl, Result.andThen_ok, Sem.run_pure]) (hK _ _ (Below.refl _ _) rfl))
        | 9, hop =>
          obtain rfl := Option.some.inj hop
          have gg : a.tmps.getD 59 undef = .bool false := hdep 3 _ 59 rfl rfl ⟨⟨3, .guard⟩, by simp, rfl, rfl⟩
          have t8 : a.tmps.getD 64 undef = (.pointer (some ⟨b, o + k * 6, none⟩)) := hdep 8 _ 64 rfl rfl ⟨⟨8, .data⟩, by simp, rfl, rfl⟩
          exact .want rfl rfl (by rw [hsz]; simp) gg (wpIn_val (fun _ => trivial) (fun c h => by cases h) (w' := wa) (v := (.pointer (some ⟨b, o + k * 6, none⟩))) (by simp only [execOp, Act.eval]; rw [show a.tmps.getD 64 undef = _ from t8]; kernel_rfl) (hK _ _ (Below.refl _ _) rfl))
        | 10, hop =>
          obtain rfl := Option.some.inj hop
          have gg : a.tmps.getD 59 undef = .bool false := hdep 3 _ 59 rfl rfl ⟨⟨3, .guard⟩, by simp, rfl, rfl⟩
          have t9 : a.tmps.getD 65 undef = (.pointer (some ⟨b, o + k * 6, none⟩)) := hdep 9 _ 65 rfl rfl ⟨⟨9, .data⟩, by simp, rfl, rfl⟩
          have hc := (hwa.cell (p := ⟨b, o + k * 6, none⟩) (show b < W3.heap.size by omega)).trans u0'
          exact .want rfl rfl (by rw [hsz]; simp) gg (wpIn_val (fun _ => trivial) (fun c h => by cases h) (w' := wa) (v := (.string (st q.1))) (by simp only [execOp, Act.eval]; rw [show a.tmps.getD 65 undef = _ from t9]; simp only [Sem.run_bind, ld_s0 hc, Result.andThen_ok, Sem.run_pure]) (hK _ _ (Below.refl _ _) rfl))
        | 11, hop =>
          obtain rfl := Option.some.inj hop
          have gg : a.tmps.getD 59 undef = .bool false := hdep 3 _ 59 rfl rfl ⟨⟨3, .guard⟩, by simp, rfl, rfl⟩
          have t4 : a.tmps.getD 60 undef = (.string (st q.1)) := hdep 4 _ 60 rfl rfl ⟨⟨4, .data⟩, by simp, rfl, rfl⟩
          have t10 : a.tmps.getD 66 undef = (.string (st q.1)) := hdep 10 _ 66 rfl rfl ⟨⟨10, .data⟩, by simp, rfl, rfl⟩
          exact .want rfl rfl (by rw [hsz]; simp) gg (wpIn_val (fun _ => trivial) (fun c h => by cases h) (w' := wa) (v := (.bool false)) (by simp only [execOp, Act.eval]; rw [show a.tmps.getD 60 undef = _ from t4, show a.tmps.getD 66 undef = _ from t10]; simp only [Sem.run_bind, eg_s, nq_s, decide_true, Bool.not_true, Result.andThen_ok, Sem.run_pure]) (hK _ _ (Below.refl _ _) rfl))
        | 12, hop =>
          obtain rfl := Option.some.inj hop
          have t3 : a.tmps.getD 59 undef = (.bool false) := hdep 3 _ 59 rfl rfl ⟨⟨3, .data⟩, by simp, rfl, rfl⟩
          have t11 : a.tmps.getD 67 undef = (.bool false) := hdep 11 _ 67 rfl rfl ⟨⟨11, .data⟩, by simp, rfl, rfl⟩
          exact .plain rfl (wpIn_val (fun _ => trivial) (fun c h => by cases h) (w' := wa) (v := (.bool false)) (by simp only [execOp, Act.eval]; rw [show a.tmps.getD 59 undef = _ from t3, show a.tmps.getD 67 undef = _ from t11]; rfl) (hK _ _ (Below.refl _ _) rfl))
        | 13, hop =>
          obtain rfl := Option.some.inj hop
          have t12 : a.tmps.getD 68 undef = (.bool false) := hdep 12 _ 68 rfl rfl ⟨⟨12, .data⟩, by simp, rfl, rfl⟩
          exact .plain rfl (wpIn_val (fun _ => trivial) (fun c h => by cases h) (w' := wa) (v := (.bool false)) (by simp only [execOp, Act.eval]; rw [show a.tmps.getD 68 undef = _ from t12]; rfl) (hK _ _ (Below.refl _ _) rfl))
        | 14, hop =>
          obtain rfl := Option.some.inj hop
          have gg : a.tmps.getD 69 undef = .bool false := hdep 13 _ 69 rfl rfl ⟨⟨13, .guard⟩, by simp, rfl, rfl⟩
          have tq : a.tmps.getD 14 undef = .pointer (some ⟨Wr.heap.size, 0, none⟩) := hsl 14 rfl
          have hc := hrz.out wa hwa
          exact .want rfl rfl (by rw [hsz]; simp) gg (wpIn_val (fun _ => trivial) (fun c h => by cases h) (w' := wa) (v := (.agg #[z0, z1, z2, z3, z4])) (by simp only [execOp, Act.eval]; rw [show a.tmps.getD 14 undef = _ from tq]; simp only [Sem.run_bind, ld_mV hc, Result.andThen_ok, Sem.run_pure]) (hK _ _ (Below.refl _ _) rfl))
        | 15, hop =>
          obtain rfl := Option.some.inj hop
          have gg : a.tmps.getD 69 undef = .bool false := hdep 13 _ 69 rfl rfl ⟨⟨13, .guard⟩, by simp, rfl, rfl⟩
          have tq : a.tmps.getD 3 undef = .pointer (some ⟨w.heap.size, 0, none⟩) := hsl 3 rfl
          exact .want rfl rfl (by rw [hsz]; simp) gg (wpIn_val (fun _ => trivial) (fun c h => by cases h) (w' := wa) (v := (.pointer (some ⟨w.heap.size, 4, none⟩))) (by simp only [execOp, Act.eval]; rw [show a.tmps.getD 3 undef = _ from tq]; kernel_rfl) (hK _ _ (Below.refl _ _) rfl))
        | 16, hop =>
          obtain rfl := Option.some.inj hop
          have gg : a.tmps.getD 69 undef = .bool false := hdep 13 _ 69 rfl rfl ⟨⟨13, .guard⟩, by simp, rfl, rfl⟩
          have t15 : a.tmps.getD 71 undef = (.pointer (some ⟨w.heap.size, 4, none⟩)) := hdep 15 _ 71 rfl rfl ⟨⟨15, .data⟩, by simp, rfl, rfl⟩
          have hc := (hwa.cell (p := ⟨w.heap.size, 4, none⟩) (show w.heap.size < W3.heap.size by omega)).trans v4
          exact .want rfl rfl (by rw [hsz]; simp) gg (wpIn_val (fun _ => trivial) (fun c h => by cases h) (w' := wa) (v := (.slice (some ⟨b, o, none⟩) p.length pc)) (by simp only [execOp, Act.eval]; rw [show a.tmps.getD 71 undef = _ from t15]; simp only [Sem.run_bind, ld_sP hc, Result.andThen_ok, Sem.run_pure]) (hK _ _ (Below.refl _ _) rfl))
        | 17, hop =>
          obtain rfl := Option.some.inj hop
          have gg : a.tmps.getD 69 undef = .bool false := hdep 13 _ 69 rfl rfl ⟨⟨13, .guard⟩, by simp, rfl, rfl⟩
          have tq : a.tmps.getD 11 undef = .pointer (some ⟨w9.heap.size, 0, none⟩) := hsl 11 rfl
          have hc := (hwa.cell (p := ⟨w9.heap.size, 0, none⟩) (show w9.heap.size < W3.heap.size by omega)).trans d5
          exact .want rfl rfl (by rw [hsz]; simp) gg (wpIn_val (fun _ => trivial) (fun c h => by cases h) (w' := wa) (v := (.int .i64 (k : Int))) (by simp only [execOp, Act.eval]; rw [show a.tmps.getD 11 undef = _ from tq]; simp only [Sem.run_bind, ld_i hc, Result.andThen_ok, Sem.run_pure]) (hK _ _ (Below.refl _ _) rfl))
        | 18, hop =>
          obtain rfl := Option.some.inj hop
          have gg : a.tmps.getD 69 undef = .bool false := hdep 13 _ 69 rfl rfl ⟨⟨13, .guard⟩, by simp, rfl, rfl⟩
          have t16 : a.tmps.getD 72 undef = (.slice (some ⟨b, o, none⟩) p.length pc) := hdep 16 _ 72 rfl rfl ⟨⟨16, .data⟩, by simp, rfl, rfl⟩
          have t17 : a.tmps.getD 73 undef = (.int .i64 (k : Int)) := hdep 17 _ 73 rfl rfl ⟨⟨17, .data⟩, by simp, rfl, rfl⟩
          exact .want rfl rfl (by rw [hsz]; simp) gg (wpIn_val (fun _ => trivial) (fun c h => by cases h) (w' := wa) (v := (.pointer (some ⟨b, o + k * 6, none⟩))) (by simp only [execOp, Act.eval]; rw [show a.tmps.getD 72 undef = _ from t16, show a.tmps.getD 73 undef = _ from t17]; simp only [Sem.run_bind, ix_oP hkl, Result.andThen_ok, Sem.run_pure]) (hK _ _ (Below.refl _ _) rfl))
        | 19, hop =>
          obtain rfl := Option.some.inj hop
          have gg : a.tmps.getD 69 undef = .bool false := hdep 13 _ 69 rfl rfl ⟨⟨13, .guard⟩, by simp, rfl, rfl⟩
          have t18 : a.tmps.getD 74 undef = (.pointer (some ⟨b, o + k * 6, none⟩)) := hdep 18 _ 74 rfl rfl ⟨⟨18, .data⟩, by simp, rfl, rfl⟩
          exact .want rfl rfl (by rw [hsz]; simp) gg (wpIn_val (fun _ => trivial) (fun c h => by cases h) (w' := wa) (v := (.pointer (some ⟨b, o + k * 6 + 1, none⟩))) (by simp only [execOp, Act.eval]; rw [show a.tmps.getD 74 undef = _ from t18]; kernel_rfl) (hK _ _ (Below.refl _ _) rfl))
        | 20, hop =>
          obtain rfl := Option.some.inj hop
          have gg : a.tmps.getD 69 undef = .bool false := hdep 13 _ 69 rfl rfl ⟨⟨13, .guard⟩, by simp, rfl, rfl⟩
          have t19 : a.tmps.getD 75 undef = (.pointer (some ⟨b, o + k * 6 + 1, none⟩)) := hdep 19 _ 75 rfl rfl ⟨⟨19, .data⟩, by simp, rfl, rfl⟩
          have hc := hry.out wa hwa
          exact .want rfl rfl (by rw [hsz]; simp) gg (wpIn_val (fun _ => trivial) (fun c h => by cases h) (w' := wa) (v := (.agg #[y0, y1, y2, y3, y4])) (by simp only [execOp, Act.eval]; rw [show a.tmps.getD 75 undef = _ from t19]; simp only [Sem.run_bind, ld_mV hc, Result.andThen_ok, Sem.run_pure]) (hK _ _ (Below.refl _ _) rfl))
        | 21, hop =>
          obtain rfl := Option.some.inj hop
          have gg : a.tmps.getD 69 undef = .bool false := hdep 13 _ 69 rfl rfl ⟨⟨13, .guard⟩, by simp, rfl, rfl⟩
          have t14 : a.tmps.getD 70 undef = (.agg #[z0, z1, z2, z3, z4]) := hdep 14 _ 70 rfl rfl ⟨⟨14, .data⟩, by simp, rfl, rfl⟩
          have t20 : a.tmps.getD 76 undef = (.agg #[y0, y1, y2, y3, y4]) := hdep 20 _ 76 rfl rfl ⟨⟨20, .data⟩, by simp, rfl, rfl⟩
          refine .want rfl rfl (by rw [hsz]; simp) gg (operIn_any (fun _ => trivial) (J := fun r w' => r = .bool true ∧ Below wa.heap.size wa w') 14 #[.tmp 70, .tmp 76] _ rfl #[.agg #[z0, z1, z2, z3, z4], .agg #[y0, y1, y2, y3, y4]] (by simp only [List.map_toArray, List.map_cons, List.map_nil, Act.eval]; rw [show a.tmps.getD 70 undef = _ from t14, show a.tmps.getD 76 undef = _ from t20]) (fun w => by kernel_rfl) (fun h => by decide) (CallsIn.inRound l' (callsIn_wide.2 ((hexc wa hwa).mono fun e w' h => ⟨_, h.1, rfl, h.2⟩))) ?_)
          rintro r w' ⟨rfl, hb⟩
          exact hK _ _ hb rfl
        | 22, hop =>
          obtain rfl := Option.some.inj hop
          have gg : a.tmps.getD 69 undef = .bool false := hdep 13 _ 69 rfl rfl ⟨⟨13, .guard⟩, by simp, rfl, rfl⟩
          have t21 : a.tmps.getD 77 undef = (.bool true) := hdep 21 _ 77 rfl rfl ⟨⟨21, .data⟩, by simp, rfl, rfl⟩
          exact .want rfl rfl (by rw [hsz]; simp) gg (wpIn_val (fun _ => trivial) (fun c h => by cases h) (w' := wa) (v := (.bool false)) (by simp only [execOp, Act.eval]; rw [show a.tmps.getD 77 undef = _ from t21]; kernel_rfl) (hK _ _ (Below.refl _ _) rfl))
        | 23, _ => exact absurd rfl hj
        | _ + 24, hop => exact absurd hop (by simp)
    · intro a wa hwa hdf hsz hsl hrr K hK
      have g13 : a.tmps.getD 69 undef = (.bool false) := hrr 13 _ 69 rfl (by decide) rfl
      have g22 : a.tmps.getD 78 undef = (.bool false) := hrr 22 _ 78 rfl (by decide) rfl
      refine .plain rfl (wpIn_val (fun _ => trivial) (fun c h => by cases h) (w' := wa) (v := (.bool false)) (by simp only [execOp, Act.eval]; rw [show a.tmps.getD 69 undef = _ from g13, show a.tmps.getD 78 undef = _ from g22]; rfl) ?_)
      refine hK _ wa ?_
      have hact := act_puts hdf hsz hsl
      have hLw := hL3.out.keep hwa
      obtain ⟨d1, _⟩ := c1 hLw.r1
      obtain ⟨d5, f5⟩ := c1 hLw.r5
      have hsw := hwa.size
      obtain ⟨wz, hwz⟩ : ∃ wz, wz = wa.setCell ⟨w9.heap.size, 0, none⟩ (.int .i64 ((k : Int) + 1)) := ⟨_, rfl⟩
      have hLz : Ln w w9.heap.size #[.int .i64 5, .int .i64 ki, .string (st s), x3, .slice (some ⟨b, o, none⟩) p.length pc] (1 + (m0 : Int)) ((k : Int) + 1) (p.length : Int) wz := by
        rw [hwz]
        exact ⟨seto hLw.r0 (by omega) _, seto hLw.r1 (by omega) _, seto hLw.r2 (by omega) _, set1 hLw.r5 _, seto hLw.r6 (by omega) _, hLw.bw.setCell (by show w.heap.size ≤ w9.heap.size; omega) _⟩
      have hkz : Kx wn.heap.size (fun j => ((wb.heap.size ≤ j ∧ j ≠ bx) ∧ j < wn.heap.size) ∨ j = bx) W3 wz := by
        rw [hwz]
        refine ⟨by simpa using hsw, fun j ob h1 h2 => ?_⟩
        exact seto (kp hwa h1) (by rcases h2 with h2 | h2 | h2 <;> omega) _
      have e5 := (c1 hLz.r5).1
      have e1 := (c1 hLz.r1).1
      rw [hwz] at e5 e1
      replace hLz := hide1 hLz
      replace hkz := hide1 hkz
      clear hrr hsl hdf hsz hK g13 g22 hLw hL3 hexc hrz hry
      simp only [List.filterMap_cons, List.filterMap_nil, List.foldl_cons, List.foldl_nil] at hact
      rw [hact]
      generalize a.tmps.getD 56 undef = v56
      generalize a.tmps.getD 57 undef = v57
      generalize a.tmps.getD 58 undef = v58
      generalize a.tmps.getD 59 undef = v59
      generalize a.tmps.getD 60 undef = v60
      generalize a.tmps.getD 61 undef = v61
      generalize a.tmps.getD 62 undef = v62
      generalize a.tmps.getD 63 undef = v63
      generalize a.tmps.getD 64 undef = v64
      generalize a.tmps.getD 65 undef = v65
      generalize a.tmps.getD 66 undef = v66
      generalize a.tmps.getD 67 undef = v67
      generalize a.tmps.getD 68 undef = v68
      generalize a.tmps.getD 69 undef = v69
      generalize a.tmps.getD 70 undef = v70
      generalize a.tmps.getD 71 undef = v71
      generalize a.tmps.getD 72 undef = v72
      generalize a.tmps.getD 73 undef = v73
      generalize a.tmps.getD 74 undef = v74
      generalize a.tmps.getD 75 undef = v75
      generalize a.tmps.getD 76 undef = v76
      generalize a.tmps.getD 77 undef = v77
      generalize a.tmps.getD 78 undef = v78
      generalize a.tmps.getD 79 undef = v79
      clear hact a
      refine (‹∀ (a : Act) (w : World), Code.wpIn _ _ Tryz.prog _ _ a w → _›) _ wa ?_
      simp only [Act.put, List.setIfInBounds_toArray, List.set_cons_succ, List.set_cons_zero]
      by_cases hkm : k = m0
      · have hke : ((k : Int) + 1 == 1 + (m0 : Int)) = true := by simp; omega
        replace hkm := hide1 hkm
        gi_wp2
        rw [← hwz]
        exact ⟨hkz.out, rfl, hkm.out, hLz.out⟩
      · have hke : ((k : Int) + 1 == 1 + (m0 : Int)) = false := by simp; omega
        gi_wp2
        rw [← hwz]
        exact ⟨hkz.out, by omega, by omega, by rw [show ((k + 1 : Nat) : Int) = (k : Int) + 1 from rfl]; exact hLz.out⟩
end Go.Proofs.YtpkncanbebpknaaGreatDoor

namespace Go.Proofs.YtpkncanbebpknaaGreatDoor
open Go.RowKit Go.Shelf
theorem jnames_all {w : World} {t : T} {c : Array Value} {nm : List UInt8} {most : Int} (hv : VA (· < w.heap.size) w t c.toList) (hT : Ev w) (h8 : 8 ≤ w.heap.size) :
    Calls Tryz.prog 6 #[.agg c, .string (st nm), .int .i64 most] w fun e w' => e = .returned (.bool true) ∧ Below w.heap.size w w' := by
  obtain ⟨k, ki, s, l, p⟩ := t
  by_cases hk : k = 5
  · subst hk
    exact jnames_obj hv hT h8
  · exact jnames_no (fun k' ki' s' l' p' e => by cases e; exact hk) hv hT h8
end Go.Proofs.YtpkncanbebpknaaGreatDoor

namespace Go.Proofs.YtpkncanbebpknaaGreatDoor
open Go.Shelf
def lays196_ren : Go.Shelf.Ren := ⟨fun | 196 => 44 | 259 => 64 | n => n, fun | 9 => 9 | 4 => 4 | 3 => 3 | 5 => 5 | 12 => 12 | 119 => 81 | 0 => 0 | 46 => 46 | 139 => 84 | 138 => 83 | 53 => 105 | n => n, fun | 3 => 0 | 4 => 1 | n => n⟩
theorem lays196 : Go.Proofs.Lays.n196 Tryz.prog lays196_ren := {
  mixed := by kernel_rfl
  f196 := Tryz.func44.trans (congrArg some (by kernel_rfl))
  f259 := Tryz.func64.trans (congrArg some (by kernel_rfl))
  t0 := Tryz.underlying0
  a0 := Tryz.isAgg0
  z0 := Tryz.sizeOf0
  v0 := Tryz.zeroValue0
  t3 := Tryz.underlying3
  a3 := Tryz.isAgg3
  z3 := Tryz.sizeOf3
  v3 := Tryz.zeroValue3
  t4 := Tryz.underlying4
  a4 := Tryz.isAgg4
  z4 := Tryz.sizeOf4
  v4 := Tryz.zeroValue4
  t5 := Tryz.underlying5
  a5 := Tryz.isAgg5
  z5 := Tryz.sizeOf5
  v5 := Tryz.zeroValue5
  t9 := Tryz.underlying9
  a9 := Tryz.isAgg9
  z9 := Tryz.sizeOf9
  v9 := Tryz.zeroValue9
  t12 := Tryz.underlying12
  a12 := Tryz.isAgg12
  z12 := Tryz.sizeOf12
  v12 := Tryz.zeroValue12
  t46 := Tryz.underlying46
  a46 := Tryz.isAgg46
  z46 := Tryz.sizeOf46
  v46 := Tryz.zeroValue46
  t53 := Tryz.underlying105
  a53 := Tryz.isAgg105
  z53 := Tryz.sizeOf105
  v53 := Tryz.zeroValue105
  t119 := Tryz.underlying81
  a119 := Tryz.isAgg81
  z119 := Tryz.sizeOf81
  t138 := Tryz.underlying83
  a138 := Tryz.isAgg83
  z138 := Tryz.sizeOf83
  v138 := Tryz.zeroValue83
  t139 := Tryz.underlying84
  a139 := Tryz.isAgg84
  z139 := Tryz.sizeOf84
  v139 := Tryz.zeroValue84
  g3 := by kernel_rfl
  g4 := by kernel_rfl }
open Go.RowKit Go.Lib in
theorem utf8_ValidString (s : ByteArray) (w : World) (hs : s.size ≤ 9223372036854775807) (hT : Lib.Utf8Tabs 0 1 w) :
    Calls Tryz.prog 44 #[.string s] w fun e w' => e = .returned (.bool (Lib.validD s.data.toList)) ∧ Below w.heap.size w w' := Any.utf8_ValidString lays196 s w hs hT
def lays260_ren : Go.Shelf.Ren := ⟨fun | 260 => 98 | n => n, fun | 9 => 9 | 21 => 21 | 3 => 3 | 4 => 4 | 5 => 5 | 119 => 81 | 0 => 0 | 46 => 46 | 139 => 84 | 138 => 83 | n => n, fun | 3 => 0 | 4 => 1 | n => n⟩
theorem lays260 : Go.Proofs.Lays.n260 Tryz.prog lays260_ren := {
  mixed := by kernel_rfl
  f260 := Tryz.func98.trans (congrArg some (by kernel_rfl))
  t0 := Tryz.underlying0
  a0 := Tryz.isAgg0
  z0 := Tryz.sizeOf0
  v0 := Tryz.zeroValue0
  t3 := Tryz.underlying3
  a3 := Tryz.isAgg3
  z3 := Tryz.sizeOf3
  v3 := Tryz.zeroValue3
  t4 := Tryz.underlying4
  a4 := Tryz.isAgg4
  z4 := Tryz.sizeOf4
  v4 := Tryz.zeroValue4
  t5 := Tryz.underlying5
  a5 := Tryz.isAgg5
  z5 := Tryz.sizeOf5
  v5 := Tryz.zeroValue5
  t9 := Tryz.underlying9
  a9 := Tryz.isAgg9
  z9 := Tryz.sizeOf9
  v9 := Tryz.zeroValue9
  t21 := Tryz.underlying21
  a21 := Tryz.isAgg21
  z21 := Tryz.sizeOf21
  v21 := Tryz.zeroValue21
  t46 := Tryz.underlying46
  a46 := Tryz.isAgg46
  z46 := Tryz.sizeOf46
  v46 := Tryz.zeroValue46
  t119 := Tryz.underlying81
  a119 := Tryz.isAgg81
  z119 := Tryz.sizeOf81
  t138 := Tryz.underlying83
  a138 := Tryz.isAgg83
  z138 := Tryz.sizeOf83
  v138 := Tryz.zeroValue83
  t139 := Tryz.underlying84
  a139 := Tryz.isAgg84
  z139 := Tryz.sizeOf84
  v139 := Tryz.zeroValue84
  g3 := by kernel_rfl
  g4 := by kernel_rfl }
open Go.RowKit Go.Lib in
theorem utf8_slow (s : ByteArray) (w : World) (hT : Lib.Utf8Tabs 0 1 w) :
    Calls Tryz.prog 98 #[.string s] w fun e w' => e = .returned (.tuple #[.int .i32 (Lib.decodeGo s).1, .int .i64 (Lib.decodeGo s).2]) ∧ Below w.heap.size w w' := Any.utf8_decodeRuneInStringSlow lays260 s w hT
end Go.Proofs.YtpkncanbebpknaaGreatDoor

namespace Go.Proofs.YtpkncanbebpknaaGreatDoor
open Go.ChangeShapes Go.WideShapes Go.ChangeAt Go.RowKit

def laidJ : List (String × DataW Unit) := [("math/bits.deBruijn32tab", Rows.laid_math_bits_deBruijn32tab), ("math/bits.deBruijn64tab", Rows.laid_math_bits_deBruijn64tab), ("internal/strconv.uint64pow10", Rows.laid_internal_strconv_uint64pow10), ("unicode/utf8.acceptRanges", Rows.laid_unicode_utf8_acceptRanges), ("strconv.ErrRange", Rows.laid_strconv_ErrRange), ("strconv.ErrSyntax", Rows.laid_strconv_ErrSyntax), ("unicode/utf8.first", Rows.laid_unicode_utf8_first)]
theorem acc_L : (Rows.laid_unicode_utf8_acceptRanges : DataW Unit) = Lib.acceptData := by kernel_rfl
theorem pow_L : (Rows.laid_internal_strconv_uint64pow10 : DataW Unit) = Lib.tabData .u64 Lib.pow10Tab := by kernel_rfl
theorem fst_L : Rows.laid_unicode_utf8_first = Lib.firstData := Pinned.utf8First_eq
/-- A variable that holds an error. -/
theorem err_cell {W : World} {n nm : String} {d : DataW Unit} {g : Nat} {t : TypeId} {ms : Array (String × TypeId)} (hg : Tryz.prog.globalNamed n = some g) (ht : (Tryz.prog.globals[g]?).map (·.type) = some t) (hi : Tryz.prog.underlying t = some (.interface ms))
    (h : Lib.VarReads Tryz.prog W n (.iface nm d)) : ∃ te pe, W.cell? ⟨g, 0, none⟩ = some (.iface te pe) := by
  obtain ⟨g', t', cs, fuel, p, hg', hty, hvar, hd⟩ := h
  obtain rfl := Option.some.inj (hg.symm.trans hg')
  obtain rfl := Option.some.inj (ht.symm.trans hty)
  obtain ⟨f1, u, v, e, hn, h1⟩ := iface_of_trod hi hd
  refine ⟨u, v, ?_⟩
  rw [World.var?_cell hg hvar 0, ← Array.getElem?_toList, e]
  rfl
theorem of_laidJ {W : World} (h : laidMetH Tryz.prog laidJ W) : Ev W ∧ 8 ≤ W.heap.size := by
  rw [MakeChecks.laidMetH_plain _ _ _ (by kernel_rfl)] at h
  have r1 : Lib.VarReads Tryz.prog W "unicode/utf8.first" Lib.firstData := fst_L ▸ Lib.laidMet.reads h (by simp [laidJ])
  have r2 : Lib.VarReads Tryz.prog W "unicode/utf8.acceptRanges" Lib.acceptData := acc_L ▸ Lib.laidMet.reads h (by simp [laidJ])
  have r3 : Lib.VarReads Tryz.prog W "internal/strconv.uint64pow10" (Lib.tabData .u64 Lib.pow10Tab) := pow_L ▸ Lib.laidMet.reads h (by simp [laidJ])
  have r4 : Lib.VarReads Tryz.prog W "strconv.ErrSyntax" Rows.laid_strconv_ErrSyntax := Lib.laidMet.reads h (by simp [laidJ])
  have r5 : Lib.VarReads Tryz.prog W "strconv.ErrRange" Rows.laid_strconv_ErrRange := Lib.laidMet.reads h (by simp [laidJ])
  have r6 : Lib.VarReads Tryz.prog W "math/bits.deBruijn64tab" Rows.laid_math_bits_deBruijn64tab := Lib.laidMet.reads h (by simp [laidJ])
  refine ⟨⟨utf8Tabs_of_reads lays260 ⟨by kernel_rfl, by kernel_rfl, by kernel_rfl, by kernel_rfl, by kernel_rfl, by kernel_rfl, by kernel_rfl⟩ r1 r2, ?_, ?_, ?_⟩, ?_⟩
  · obtain ⟨g, t, cs, fuel, p, hg, hty, hvar, hd⟩ := r3
    have e1 : Tryz.prog.globalNamed "internal/strconv.uint64pow10" = some 5 := by kernel_rfl
    obtain rfl := Option.some.inj (e1.symm.trans hg)
    have e2 : (Tryz.prog.globals[5]?).map (·.type) = some 153 := by kernel_rfl
    obtain rfl := Option.some.inj (e2.symm.trans hty)
    unfold Lib.TabIs
    rw [hvar, ← Lib.cells_of_tab Tryz.underlying153 Tryz.underlying105 (by kernel_rfl) (by kernel_rfl) hd]
  · exact err_cell (by kernel_rfl) (by kernel_rfl) Tryz.underlying30 r4
  · exact err_cell (by kernel_rfl) (by kernel_rfl) Tryz.underlying30 r5
  · obtain ⟨g, t, cs, fuel, p, hg, hty, hvar, hd⟩ := r6
    have e1 : Tryz.prog.globalNamed "math/bits.deBruijn64tab" = some 7 := by kernel_rfl
    obtain rfl := Option.some.inj (e1.symm.trans hg)
    unfold World.var? at hvar
    rw [hg] at hvar
    simp only [Option.bind_some] at hvar
    rcases Nat.lt_or_ge 7 W.heap.size with h' | h'
    · exact h'
    · rw [Array.getElem?_eq_none h'] at hvar; cases hvar
theorem laid_metJ (os : Os) (args : Array Value) : laidMetH Tryz.prog laidJ ((World.laidAll Tryz.prog os laidJ).forCall (fun _ _ => 0) ⟨#[], args, []⟩).memory := by
  rw [MakeChecks.laidMetH_plain _ _ _ (by kernel_rfl)]
  exact laidMet_laidAll _ (by kernel_rfl) (by kernel_rfl)
theorem st_of (s : ByteArray) : st s.data.toList = s := by cases s; simp [st]
end Go.Proofs.YtpkncanbebpknaaGreatDoor

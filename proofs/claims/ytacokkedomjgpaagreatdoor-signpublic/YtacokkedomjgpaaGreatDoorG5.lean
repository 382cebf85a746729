/- SG7, Q2, Q3, ManyR, Z1, Res1, Z2, Res2, P6, Crv3, P3: laid together. -/
import Derived.RangeFuncNested
import Derived.RangeFuncBound
import Derived.RangeFuncCalls
import Derived.RangeFuncLeaves
import Derived.Shelf.Abstract
import Derived.Shelf.RegionOpen
import Derived.WalkKit
import Derived.OwnWalkIn
import Derived.TacticsInMore
import Derived.LoopNIn
import Derived.LoopIn
import Derived.Laws.Rows
import Derived.Test.YtacokkedomjgpaaGreatDoorG4
import Derived.Test.YtacokkedomjgpaaGreatDoorG3
import Derived.Test.YtacokkedomjgpaaGreatDoorG2
import Derived.Test.YtacokkedomjgpaaGreatDoorRows
namespace Go.Proofs.YtacokkedomjgpaaGreatDoor
open Go.RowKit
theorem step_call_v {w : World} {P : Program} {ops : Array Oper} {o : Oper} {a : Act} {K : Act → World → Prop} {Q : Exit → Act → World → Prop} {E : Prop} (hgd : o.guard = none) (f : FuncId) (args : Array Operand) (tys : Array TypeId)
    (ho : o.op = .call { callee := .value (.func f), args := args, argTypes := tys }) (vs : Array Value) (hv : args.map a.eval = vs) (he : ∀ w, (callFunc f vs).run P w = .ok (.enter f vs) w) {J : Value → World → Prop} (hc : Calls P f vs w fun e w' => ∃ v, e = .returned v ∧ J v w')
    (h : ∀ v w', J v w' → K (a.put o.dst v) w') : if Region.wanted o (yielded ops a.tmps) = true then Oper.wp P o a w K Q else E := by
  have hw : Region.wanted o (yielded ops a.tmps) = true := by simp [Region.wanted, hgd]
  rw [if_pos hw]
  have hev : a.eval (.func f) = .func (.func f) #[] #[] := rfl
  unfold Oper.wp execOp
  simp only [ho, resolve, invoke, Sem.run_bind, hv, hev, Deferred.ofValue, Sem.run_pure, Result.andThen_ok, Array.append_empty, Array.empty_append, he, Oper.upon_enter]
  refine hc.mono ?_
  rintro e w' ⟨v, rfl, hJ⟩
  exact h v w' hJ
def jn (F G : Nat → Nat) (i : Nat) : Nat := if i < 32 then F i else G (i - 32)
theorem row_key {w : World} {q : Nat} {f : Nat → Nat} {t : TypeId} (h : w.heap[q]? = some (.cells (ck f) t (0, 0))) : RowAt w (some ⟨q, 0, none⟩) (bvs 32 f) := fun _ => ⟨q, 0, rfl, fun i v hi => by
  have hl := (List.getElem?_eq_some_iff.1 hi).1
  rw [bvs_len] at hl
  rw [bvs_get f hl] at hi
  rw [cell_of_row _ _ _ _ _ _ h, ← hi, Nat.zero_add]
  exact arr_get _ _ _ hl⟩
theorem jn_app (F G : Nat → Nat) : bvs 32 F ++ bvs 32 G = bvs 64 (jn F G) := by
  rw [show bvs 32 F = bvs 32 (jn F G) from bvs_cong fun i hi => by unfold jn; rw [if_pos hi]]
  exact bvs_app fun i hi => by unfold jn; rw [if_neg (by omega), show 32 + i - 32 = i by omega]
theorem concat_2 {w : World} {q p g : Nat} {F G : Nat → Nat} (h1 : w.heap[q]? = some (.cells (ck F) 23 (0, 0))) (h2 : w.heap[p]? = some (.cells (ck G) 23 (0, 0))) (h3 : w.heap[g]? = some (.cells #[.slice (some ⟨q, 0, none⟩) 32 32, .slice (some ⟨p, 0, none⟩) 32 32] 31 (0, 0))) :
    Calls Tryz.prog 53 #[.slice (some ⟨g, 0, none⟩) 2 2] w fun e w' => ∃ v, e = .returned v ∧ ∃ r cap cs, v = .slice (some ⟨r, 0, none⟩) 64 cap ∧ w.heap.size ≤ r ∧ 64 ≤ cap ∧ w'.heap[r]? = some (.cells cs 5 (0, 0)) ∧ cs.toList.take 64 = bvs 64 (jn F G) ∧ Below w.heap.size w w' := by
  have hf : [bvs 32 F, bvs 32 G].flatten = bvs 64 (jn F G) := by rw [← jn_app]; simp
  have hl : [bvs 32 F, bvs 32 G].flatten.length = 64 := by rw [hf, bvs_len]
  refine (concat_b (some ⟨g, 0, none⟩) 2 [bvs 32 F, bvs 32 G] w (fun _ => ⟨g, 0, rfl, fun i hi => ?_⟩) 2 rfl (by omega) (by rw [hl]; omega) (by rw [hl]; omega) (fun l hx => ?_)).mono ?_
  · have : i = 0 ∨ i = 1 := by simp at hi; omega
    rcases this with rfl | rfl
    · refine ⟨some ⟨q, 0, none⟩, 32, ?_, row_key h1⟩
      rw [cell_of_row _ _ _ _ _ _ h3]
      show _ = some (Value.slice _ (bvs 32 F).length 32)
      rw [bvs_len]; rfl
    · refine ⟨some ⟨p, 0, none⟩, 32, ?_, row_key h2⟩
      rw [cell_of_row _ _ _ _ _ _ h3]
      show _ = some (Value.slice _ (bvs 32 G).length 32)
      rw [bvs_len]; rfl
  · rcases List.mem_cons.1 hx with rfl | hx
    · exact bvs_one _ _
    · rcases List.mem_cons.1 hx with rfl | hx
      · exact bvs_one _ _
      · cases hx
  · rintro e w' ⟨v, rfl, ho, hb⟩
    rw [hf, bvs_len] at ho
    refine ⟨v, rfl, ?_⟩
    rcases ho.2 with ⟨_, e⟩ | ⟨r, cap, cur, rfl, hr, hh, hc, _, _, ht⟩
    · simp at e
    · exact ⟨r, cap, cur, rfl, hr, hc, hh, by simpa using ht, hb⟩
theorem cw_list (F : Nat → Nat) : cw F = (bvs 64 F).toArray := by
  apply Array.ext_getElem?
  intro i
  have e : (bvs 64 F).toArray[i]? = (bvs 64 F)[i]? := by simp
  rw [e]
  rcases Nat.lt_or_ge i 64 with h | h
  · rw [bvs_get F h]; unfold cw ab; exact arr_get 64 (fun i => .int .u8 (F i : Nat)) i h
  · rw [List.getElem?_eq_none (by rw [bvs_len]; exact h), Array.getElem?_eq_none (by rw [show (cw F).size = 64 from ab_size _ _]; exact h)]
theorem ar_w (r cap : Nat) (w : World) : (Instr.arrayAt 29 (.slice (some ⟨r, 0, none⟩) 64 cap)).run Tryz.prog w = .ok (.pointer (some ⟨r, 0, none⟩)) w := by kernel_rfl
theorem ld_wide {w : World} {r : Nat} {cs : Array Value} {t : TypeId} {F : Nat → Nat} (h : w.heap[r]? = some (.cells cs t (0, 0))) (ht : cs.toList.take 64 = bvs 64 F) : (Instr.loadAt 29 (.pointer (some ⟨r, 0, none⟩))).run Tryz.prog w = .ok (.agg (cw F)) w := by
  rw [cw_list]
  refine run_loadAt_mid w r 0 29 _ _ (fun j v hj => ?_) Tryz.underlying29 rfl (by rw [bvs_len]; kernel_rfl)
  have hl := (List.getElem?_eq_some_iff.1 hj).1
  rw [bvs_len] at hl
  rw [cell_of_row _ _ _ _ _ _ h, Nat.zero_add]
  rw [← ht, List.getElem?_take_of_lt hl] at hj
  simpa using hj
theorem step_load_v {w : World} {P : Program} {ops : Array Oper} {o : Oper} {a : Act} {K : Act → World → Prop} {Q : Exit → Act → World → Prop} {E : Prop} (hgd : o.guard = none) (t : TypeId) (x : Operand) (ho : o.op = .load t x) (v0 v : Value) (hx : a.eval x = v0) (hl : (Instr.loadAt t v0).run P w = .ok v w)
    (h : K (a.put o.dst v) w) : if Region.wanted o (yielded ops a.tmps) = true then Oper.wp P o a w K Q else E := by
  have hw : Region.wanted o (yielded ops a.tmps) = true := by simp [Region.wanted, hgd]
  rw [if_pos hw]
  unfold Oper.wp
  simp only [execOp, ho, hx, Sem.run_bind, hl, Result.andThen_ok, Sem.run_pure, Oper.upon_value]
  exact h
theorem step_store_v {w w' : World} {P : Program} {ops : Array Oper} {o : Oper} {a : Act} {K : Act → World → Prop} {Q : Exit → Act → World → Prop} {E : Prop} (hgd : o.guard = none) (t : TypeId) (x y : Operand) (ho : o.op = .store t x y) (v0 v : Value) (hx : a.eval x = v0) (hy : a.eval y = v) (hl : (Instr.storeAt t v0 v).run P w = .ok () w')
    (h : K (a.put o.dst undef) w') : if Region.wanted o (yielded ops a.tmps) = true then Oper.wp P o a w K Q else E := by
  have hw : Region.wanted o (yielded ops a.tmps) = true := by simp [Region.wanted, hgd]
  rw [if_pos hw]
  unfold Oper.wp
  simp only [execOp, ho, hx, hy, Sem.run_bind, hl, Result.andThen_ok, Sem.run_pure, Oper.upon_skip]
  exact h
theorem step_arr_v {w : World} {P : Program} {ops : Array Oper} {o : Oper} {a : Act} {K : Act → World → Prop} {Q : Exit → Act → World → Prop} {E : Prop} (hgd : o.guard = none) (t : TypeId) (x : Operand) (ho : o.op = .sliceToArrayPointer t x) (v0 v : Value) (hx : a.eval x = v0) (hl : (Instr.arrayAt t v0).run P w = .ok v w)
    (h : K (a.put o.dst v) w) : if Region.wanted o (yielded ops a.tmps) = true then Oper.wp P o a w K Q else E := by
  have hw : Region.wanted o (yielded ops a.tmps) = true := by simp [Region.wanted, hgd]
  rw [if_pos hw]
  unfold Oper.wp
  simp only [execOp, ho, hx, Sem.run_bind, hl, Result.andThen_ok, Sem.run_pure, Oper.upon_value]
  exact h
theorem st_wide2 {w : World} {b : Nat} {c : Array Value} {t0 : TypeId} {F : Nat → Nat} (hr : w.heap[b]? = some (.cells c t0 (0, 0))) (hs : c.size = 64) : (Instr.storeAt 29 (.pointer (some ⟨b, 0, none⟩)) (.agg (cw F))).run Tryz.prog w = .ok () (w.setRow b (cw F)) :=
  st_row (n := cw F) (by unfold cw; rw [ab_size]; kernel_rfl) (by rw [hs]; exact (ab_size _ _).symm) (ab_one _ _) w b hr
set_option maxHeartbeats 4000000 in
set_option maxRecDepth 100000 in
theorem join_d {F G : Nat → Nat} {W0 : World} : Calls Tryz.prog 23 #[.agg (ck F), .agg (ck G)] W0 fun e w' => e = .returned (.agg (cw (jn F G))) ∧ Below W0.heap.size W0 w' := by
  obtain ⟨A, hA⟩ : ∃ A, Hid (A = ck F) := ⟨_, hide1 rfl⟩
  obtain ⟨B, hB⟩ : ∃ B, Hid (B = ck G) := ⟨_, hide1 rfl⟩
  obtain ⟨R, hR⟩ : ∃ R, Hid (R = cw (jn F G)) := ⟨_, hide1 rfl⟩
  rw [← hA.out, ← hB.out, ← hR.out]
  have bxA : ∀ w : World, (Instr.box 23 (.agg A)).run Tryz.prog w = .ok (.pointer (some ⟨w.heap.size, 0, none⟩)) (w.alloc (.cells A 23)) := fun w => bx_agg w
  have bxB : ∀ w : World, (Instr.box 23 (.agg B)).run Tryz.prog w = .ok (.pointer (some ⟨w.heap.size, 0, none⟩)) (w.alloc (.cells B 23)) := fun w => bx_agg w
  have hzs : ∀ w : World, (zeroValue 29).run Tryz.prog w = .ok (.agg (ab 64 fun _ => 0)) w := fun w => by kernel_rfl
  obtain ⟨w1, hw1⟩ : ∃ w1, Hid (w1 = ((W0.alloc (.cells A 23)).alloc (.cells B 23)).alloc (.cells (ab 64 fun _ => 0) 29)) := ⟨_, hide1 rfl⟩
  have h1 : Below W0.heap.size W0 w1 := by rw [hw1.out]; exact (((Below.refl _ _).alloc (Nat.le_refl _) _).alloc (by simp) _).alloc (by simp; omega) _
  go_enter Tryz.func23, Tryz.ntmps23
  go_upto_region 1 with fail
  rw [← hw1.out]
  have rA : w1.heap[W0.heap.size]? = some (.cells A 23 (0, 0)) := by
    rw [hw1.out, Below.heap_alloc _ _ _ (by simp; omega), Below.heap_alloc _ _ _ (by simp)]; exact (MapKept.heap_alloc W0 _).1
  have rB : w1.heap[W0.heap.size + 1]? = some (.cells B 23 (0, 0)) := by
    rw [hw1.out, Below.heap_alloc _ _ _ (by simp)]
    have := (MapKept.heap_alloc (W0.alloc (.cells A 23)) (.cells B 23)).1
    rwa [show (W0.alloc (.cells A 23)).heap.size = W0.heap.size + 1 by simp] at this
  have r0 : w1.heap[W0.heap.size + 1 + 1]? = some (.cells (ab 64 fun _ => 0) 29 (0, 0)) := by
    rw [hw1.out]
    have := (MapKept.heap_alloc ((W0.alloc (.cells A 23)).alloc (.cells B 23)) (.cells (ab 64 fun _ => 0) 29)).1
    rwa [show ((W0.alloc (.cells A 23)).alloc (.cells B 23)).heap.size = W0.heap.size + 1 + 1 by simp] at this
  have hl0 := (Array.getElem?_eq_some_iff.1 r0).1
  obtain ⟨w3, hw3⟩ : ∃ w3, Hid (w3 = (w1.alloc (.cells #[.slice (some ⟨W0.heap.size, 0, none⟩) 32 32, .slice (some ⟨W0.heap.size + 1, 0, none⟩) 32 32] 31)).drew) := ⟨_, hide1 rfl⟩
  have h13 : Below w1.heap.size w1 w3 := by rw [hw3.out]; exact ((Below.refl _ _).alloc (Nat.le_refl _) _).drew
  have h3r : w3.heap[w1.heap.size]? = some (.cells #[.slice (some ⟨W0.heap.size, 0, none⟩) 32 32, .slice (some ⟨W0.heap.size + 1, 0, none⟩) 32 32] 31 (0, 0)) := by
    rw [hw3.out]; exact (MapKept.heap_alloc w1 _).1
  have rA3 := (h13.block _ (Array.getElem?_eq_some_iff.1 rA).1).trans rA
  have rB3 := (h13.block _ (Array.getElem?_eq_some_iff.1 rB).1).trans rB
  rw [hA.out] at rA3
  rw [hB.out] at rB3
  have hcall := concat_2 rA3 rB3 h3r
  rw [hw3.out] at hcall
  have hq : ∀ w4, Below w3.heap.size w3 w4 → w4.heap[W0.heap.size + 1 + 1]? = some (.cells (ab 64 fun _ => 0) 29 (0, 0)) ∧ Below W0.heap.size W0 w4 := fun w4 hb4 => ⟨((h13.trans (hb4.mono h13.size)).block _ hl0).trans r0, h1.trans ((h13.trans (hb4.mono h13.size)).mono h1.size)⟩
  rw [hw3.out] at hq
  replace hq := hide1 hq
  clear hzs bxA bxB rA rB r0 hl0 h13 h3r rA3 rB3 h1
  have hsz : R.size = 64 := by rw [hR.out]; exact ab_size _ _
  refine wp_region_any (by kernel_rfl) ?_
  change wpAny _ _ _ _ _ _ _ (World.drew _)
  refine wpAny_take (i := 0) (v := .slice (some ⟨W0.heap.size, 0, none⟩) 32 32) rfl (by kernel_rfl) (by kernel_rfl) (by kernel_rfl) (fun _ _ _ h => h) (Or.inl ⟨by rfl, fun w => by kernel_rfl⟩) ?_
  refine wpAny_take (i := 1) (v := .slice (some ⟨W0.heap.size + 1, 0, none⟩) 32 32) rfl (by kernel_rfl) (by kernel_rfl) (by kernel_rfl) (fun _ _ _ h => h) (Or.inl ⟨by rfl, fun w => by kernel_rfl⟩) ?_
  refine wpAny_ready (rs := [2]) (by kernel_rfl) (by simp) (AllReady.cons rfl (fun K hK => ?_) AllReady.nil)
  go_simp
  refine hK _ _ ?_; clear hK K
  refine wpAny_ready (rs := [3]) (by kernel_rfl) (by simp) (AllReady.cons rfl (fun K hK => ?_) AllReady.nil)
  refine step_call_v rfl 53 #[.tmp 7] _ rfl #[.slice (some ⟨w1.heap.size, 0, none⟩) 2 2] (by first | rfl | (simp [Act.eval]; done) | (simp [Act.eval, Act.put]; done)) (fun w => by kernel_rfl) hcall ?_
  rintro v w4 ⟨r, cap, cs, rfl, hr, hcap, hh, ht, hb4⟩
  obtain ⟨hr4, hb04⟩ := hq.out w4 hb4
  have hw5 := wrt_row (c' := cw (jn F G)) hr4
  have hf5 := below_wrt hb04 hw5 (by omega) hb04.size
  have hst := st_wide2 (F := jn F G) hr4 (ab_size _ _)
  have hld := ld_wide hh ht
  rw [← hR.out] at hst hw5 hf5 hld
  replace hw5 := hw5.row
  refine hK _ _ ?_; clear hK K
  refine wpAny_ready (rs := [4]) (by kernel_rfl) (by simp) (AllReady.cons rfl (fun K hK => ?_) AllReady.nil)
  refine step_arr_v rfl 29 (.tmp 8) rfl (.slice (some ⟨r, 0, none⟩) 64 cap) _ rfl (ar_w r cap w4) ?_
  refine hK _ _ ?_; clear hK K
  refine wpAny_ready (rs := [5]) (by kernel_rfl) (by simp) (AllReady.cons rfl (fun K hK => ?_) AllReady.nil)
  refine step_load_v rfl 29 (.tmp 9) rfl (.pointer (some ⟨r, 0, none⟩)) _ rfl hld ?_
  refine hK _ _ ?_; clear hK K
  refine wpAny_ready (rs := [6]) (by kernel_rfl) (by simp) (AllReady.cons rfl (fun K hK => ?_) AllReady.nil)
  refine step_store_v rfl 29 (.tmp 4) (.tmp 10) rfl (.pointer (some ⟨W0.heap.size + 1 + 1, 0, none⟩)) (.agg R) rfl rfl hst ?_
  refine hK _ _ ?_; clear hK K
  refine wpAny_done (by kernel_rfl) ?_ _
  all_goals go_wp2
  all_goals exact bodyPost_ret (v := .agg R) (results_row rfl _ rfl Tryz.underlying29 (by rw [hsz]; kernel_rfl) hw5) rfl ⟨rfl, hf5⟩
end Go.Proofs.YtacokkedomjgpaaGreatDoor

namespace Go.Proofs.YtacokkedomjgpaaGreatDoor
open Go.RowKit Go.Shelf
attribute [local go_sem] Oper.semAt_some

def fg (f : Nat → Nat) (i : Nat) : Nat := f (i / 8) / 2 ^ (i % 8) % 2
def tops (f : Nat → Nat) (n k : Nat) : List Nat := (List.range k).map fun j => fg f (n - 1 - j)
theorem tops_succ (f : Nat → Nat) (n k : Nat) : tops f n (k + 1) = tops f n k ++ [fg f (n - 1 - k)] := by simp [tops, List.range_succ]
theorem tops_length (f : Nat → Nat) (n k : Nat) : (tops f n k).length = k := by simp [tops]

theorem fg_bit {f : Nat → Nat} (hf : ∀ i, f i < 256) (j : Nat) : bits .and .u8 (((f (j / 8) : Nat) : Int) / 2 ^ (j % 8)) 1 = ((fg f j : Nat) : Int) := by
  have h1 : ∀ k, k < 256 → bits .and .u8 ((k : Nat) : Int) 1 = ((k % 2 : Nat) : Int) := by decide +kernel
  have h2 : ((f (j / 8) : Nat) : Int) / 2 ^ (j % 8) = ((f (j / 8) / 2 ^ (j % 8) : Nat) : Int) := by
    rw [Int.natCast_ediv]; simp
  rw [h2, h1 _ (Nat.lt_of_le_of_lt (Nat.div_le_self _ _) (hf _))]
  rfl
def Two (p g : Nat) (A B : World) : Prop := B.heap[p]? = A.heap[p]? ∧ B.heap[g]? = A.heap[g]?

set_option maxRecDepth 100000 in
set_option maxHeartbeats 4000000 in
theorem figs_in (l p g len : Nat) (f : Nat → Nat) (hf : ∀ i, f i < 256) (hm : len ≤ 1000) (J Jx : List Nat → World → Prop)
    (hY : ∀ pre x W, J pre W → pre.length < 8 * len → YieldAt Fence.wide 3 Tryz.prog l #[.int .u8 (x : Nat)] W fun e W' =>
      (e = .returned (.bool true) ∧ J (pre ++ [x]) W' ∧ Two p g W W') ∨ (e = .returned (.bool false) ∧ Jx (pre ++ [x]) W'))
    (W : World) (hp : W.cell? ⟨p, 0, none⟩ = some (.slice (some ⟨g, 0, none⟩) len len)) (hg : ∀ i, i < len → W.cell? ⟨g, i, none⟩ = some (.int .u8 (f i : Nat))) (h0 : J [] W) :
    CallsIn Fence.wide 4 Tryz.prog 102 #[.func (.yield l) #[] #[], .pointer (some ⟨p, 0, none⟩)] W fun e W' => (∃ v, e = .returned v) ∧
      ((∃ ys, ys = tops f (8 * len) (8 * len) ∧ J ys W') ∨ (∃ pre, (∃ k, k ≤ 8 * len ∧ pre = tops f (8 * len) k) ∧ Jx pre W')) := by
  refine callsIn_of_wp Tryz.func102 rfl trivial ?_ rfl
  simp only [Tryz.ntmps102, List.size_toArray, List.length_cons, List.length_nil, Nat.reduceAdd, Nat.reduceSub, Array.replicate_succ, Array.replicate_zero, List.push_toArray, List.append_toArray, List.nil_append, List.cons_append]
  gi_wp2
  gi_loopw [3] (fun i wr => ∃ k : Nat, k ≤ 8 * len ∧ i = .int .i64 (8 * (len : Int) - 1 - (k : Int)) ∧ J (tops f (8 * len) k) wr ∧ wr.cell? ⟨p, 0, none⟩ = some (.slice (some ⟨g, 0, none⟩) len len) ∧ ∀ i, i < len → wr.cell? ⟨g, i, none⟩ = some (.int .u8 (f i : Nat)))
    (fun i _ => (intOf i + 1).toNat)
  case atStart => exact ⟨0, Nat.zero_le _, by simp, h0, hp, hg⟩
  case round =>
    obtain ⟨k, hk, rfl, hJs, hp', hg'⟩ := hrel
    by_cases hlt : k < 8 * len
    · obtain ⟨j, hj⟩ : ∃ j : Nat, Hid (j + 1 + k = 8 * len) := ⟨8 * len - 1 - k, hide1 (by omega)⟩
      have ej : 8 * (len : Int) - 1 - (k : Int) = (j : Int) := by have := hj.out; omega
      rw [ej]
      obtain ⟨fn, tmps, assign, body, hy, hR⟩ := hY _ (fg f j) wr hJs (by rw [tops_length]; exact hlt)
      have hcx := hg' (j / 8) (by have := hj.out; omega)
      have hbt := fg_bit hf j
      have hjs : J (tops f (8 * len) k ++ [fg f j]) = J (tops f (8 * len) (k + 1)) := by rw [tops_succ, show 8 * len - 1 - k = j by have := hj.out; omega]
      have hjx : Jx (tops f (8 * len) k ++ [fg f j]) = Jx (tops f (8 * len) (k + 1)) := by rw [tops_succ, show 8 * len - 1 - k = j by have := hj.out; omega]
      gi_wp2
      refine hR.mono ?_
      rintro e W3 (⟨rfl, hJ3, hk3⟩ | ⟨rfl, hJx3⟩)
      · rw [hjs] at hJ3
        gi_wp2
        go_roundw
        case rel => exact ⟨k + 1, by omega, by have := hj.out; congr 1; omega, hJ3, (World.cell?_of_block hk3.1).trans hp', fun i hi => (World.cell?_of_block hk3.2).trans (hg' i hi)⟩
        case measure => simp [intOf]
      · rw [hjx] at hJx3
        gi_wp2
        refine bodyPost_ret (results_none rfl _ _ _) rfl ?_
        exact ⟨⟨_, rfl⟩, .inr ⟨_, ⟨k + 1, by omega, rfl⟩, hJx3⟩⟩
    · obtain rfl : k = 8 * len := by omega
      gi_wp2
      go_end0
      exact ⟨⟨_, rfl⟩, .inl ⟨_, rfl, hJs⟩⟩

theorem figs_stops (p g len : Nat) (f : Nat → Nat) (hf : ∀ i, f i < 256) (hm : len ≤ 1000) (w : World) (hp : w.cell? ⟨p, 0, none⟩ = some (.slice (some ⟨g, 0, none⟩) len len)) (hg : ∀ i, i < len → w.cell? ⟨g, i, none⟩ = some (.int .u8 (f i : Nat))) :
    SeqStopsK Fence.wide 4 Tryz.prog 102 #[.pointer (some ⟨p, 0, none⟩)] (fun x : Nat => #[Value.int .u8 (x : Nat)]) (Two p g) (fun ys => ys = tops f (8 * len) (8 * len)) (fun pre => ∃ k, k ≤ 8 * len ∧ pre = tops f (8 * len) k) (8 * len) w :=
  fun l J Jx W hW _ _ hY h0 => figs_in l p g len f hf hm J Jx hY W (cell_later hW hp) (fun i hi => cell_later hW (hg i hi)) h0
end Go.Proofs.YtacokkedomjgpaaGreatDoor

namespace Go.Proofs.YtacokkedomjgpaaGreatDoor
open Go.RowKit Go.Shelf

def rw0 (w : World) (β : Nat → Nat) (k : Nat) : Wd := ⟨w, fun x => x < w.heap.size ∧ ∀ b, b < k → x ≠ β b, fun _ h => h.1, fun _ => none⟩

section
variable {P : Program} {W : Wd} {W0 : World} {s : List SV} {m : List Blk} {β : Nat → Nat} {a : Act} {w : World} {Q : Exit → Act → World → Prop}
theorem St.round (h : St W s m β a w) (s' : List SV) (hl : liveB s' m.length = true) : St (rw0 w β m.length) s' m β { tmps := (s'.map (den β)).toArray, defers := [] } w :=
  ⟨rfl, ⟨rfl, rfl, rfl, Nat.le_refl _, fun _ _ => rfl⟩, h.row, fun b hb hs => hs.2 b hb rfl, h.inj, live_of hl, fun _ _ h => by cases h⟩
theorem St.back {s2 : List SV} {m2 : List Blk} {β2 : Nat → Nat} {a2 : Act} {w2 : World} {k : Nat} (h : St (wd W0) s m β a w) (h2 : St (rw0 w β k) s2 m2 β2 a2 w2) (eb : ∀ c, c < k → β2 c = β c) (hk : m.length = k) (hl : m2.length = k) :
    St (wd W0) s m2 β a w2 ∧ KeepsOthers w w2 ∧ ∀ x, x < w.heap.size → (∀ b, b < k → x ≠ β b) → w2.heap[x]? = w.heap[x]? := by
  have h3 : ∀ x, x < w.heap.size → (∀ b, b < k → x ≠ β b) → w2.heap[x]? = w.heap[x]? := fun x h1 h4 => h2.bel.block x ⟨h1, h4⟩
  refine ⟨⟨h.tm, ⟨h2.bel.os.trans h.bel.os, h2.bel.tape.trans h.bel.tape, h2.bel.output.trans h.bel.output, Nat.le_trans h.bel.size h2.bel.size, fun x hx => ?_⟩, fun b c hc => ?_, fun b hb => h.old b (by omega), fun b c hb hc => h.inj b c (by omega) (by omega), fun t p ht hs => by have := h.live t p ht hs; omega, fun _ _ h => by cases h⟩, ⟨h2.bel.size, fun x o hx ho => ?_⟩, h3⟩
  · rw [h3 x (Nat.lt_of_lt_of_le hx h.bel.size) (fun b hb e => h.old b (by omega) (e ▸ hx))]
    exact h.bel.block x hx
  · have hb : b < k := by have := (List.getElem?_eq_some_iff.1 hc).1; omega
    rw [← eb b hb]; exact h2.row b c hc
  · rw [h3 x (Array.getElem?_eq_some_iff.1 hx).1 (fun b hb e => ?_)]
    · exact hx
    · have hb' : b < m.length := by omega
      have h5 := h.row b m[b] (by simp [hb'])
      rw [← e, hx] at h5
      cases h5; cases ho
theorem eb_trans {k : Nat} {β0 β1 β2 : Nat → Nat} (e : ∀ c, c < k → β2 c = β1 c) (eb : ∀ c, c < k → β1 c = β0 c) : ∀ c, c < k → β2 c = β0 c := fun c hc => (e c hc).trans (eb c hc)
theorem St.after {w' : World} (h : St W s m β a w) (hb : Below w.heap.size w w') (s' : List SV) (hl : liveB s' m.length = true) : St W s' m β { tmps := (s'.map (den β)).toArray, defers := [] } w' := by
  refine ⟨rfl, h.bel.quiet hb, fun b c hc => ?_, h.old, h.inj, live_of hl, h.pin⟩
  have h1 := h.row b c hc
  rw [hb.block _ (Array.getElem?_eq_some_iff.1 h1).1]; exact h1

theorem s_im {f : FuncId} {fn : Func} {c : Code} {args : Array Value} {R : Ending → World → Prop} {n : Nat} (hf : P.funcs[f]? = some fn) (hn : fn.ntmps = n) (hb : fn.body = some c) (s : List SV) (h : ∀ β a, St (wd W0) (ov (s ++ List.replicate (n - s.length) uu) []) [] β a W0 → c.wp P (bodyPostM Fence.wide 5 P fn R) a W0)
    (hs : (args ++ Array.replicate (n - args.size) undef) = ((s ++ List.replicate (n - s.length) uu).map (den fun _ => 0)).toArray := by kernel_rfl) (hl : (s ++ List.replicate (n - s.length) uu).all (fun v => match v with | .inl _ => true | .inr _ => false) = true := by kernel_rfl) : Calls P f args W0 R := by
  refine (callsIn_wide (n := 5)).1 (callsIn_of_wp_marks hf hb trivial (wpIn_wide.2 ?_) rfl)
  rw [hn, hs]
  refine h (fun _ => 0) _ (St.o0 ⟨rfl, kw_of (Below.refl _ _), fun b c h => by simp at h, fun b h => by simp at h, fun b c h => by simp at h, fun t p ht h => ?_, fun _ _ h => by cases h⟩)
  have := List.all_eq_true.1 hl (slot (s ++ List.replicate (n - s.length) uu) t) (by unfold slot; rw [List.getD_eq_getElem?_getD, List.getElem?_eq_getElem ht]; exact List.getElem_mem ht)
  rw [h] at this; simp at this

theorem rg_call2 {id f t d1 d2 : Nat} {tys : Array TypeId} {o1 o2 : Oper} {v : Value} (hv : a.eval (.tmp t) = v) (h1 : o1.op = .move (.tmp t)) (e1 : o1.dst = some d1) (g1 : o1.guard = none) (h2 : o2.op = .call { callee := .value (.func f), args := #[.tmp d1], argTypes := tys }) (e2 : o2.dst = some d2) (g2 : o2.guard = none)
    (hsz : d1 < a.tmps.size) (he : ∀ w, (callFunc f #[v]).run P w = .ok (.enter f #[v]) w) (h : Calls P f #[v] w fun e w' => ∃ R, e = .returned R ∧ Q .normal ((a.put (some d1) v).put (some d2) R) w') : (Code.region id [o1, o2].toArray false).wp P Q a w := by
  refine wp_region_lit (wpList_plain g1 fun K hK => ?_)
  unfold Oper.wp
  simp only [execOp, h1, hv, Sem.run_pure, Oper.upon_value, e1]
  refine hK _ _ (wpList_plain g2 fun K' hK' => ?_)
  have hev : (a.put (some d1) v).eval (.tmp d1) = v := by simp [Act.put, Act.eval, Array.getD, hsz]
  have hf : (a.put (some d1) v).eval (.func f) = .func (.func f) #[] #[] := rfl
  unfold Oper.wp execOp
  simp only [h2, resolve, invoke, Sem.run_bind, List.map_toArray, List.map_cons, List.map_nil, hev, hf, Deferred.ofValue, Sem.run_pure, Result.andThen_ok, Array.append_empty, Array.empty_append, he, Oper.upon_enter]
  refine h.mono ?_
  rintro e w' ⟨R, rfl, hq⟩
  exact hK' _ _ (by rw [e2]; exact hq)
theorem rg_as {F : Fence} {n id t d : Nat} {o : Oper} {v : Value} (hv : a.eval (.tmp t) = v) (h1 : o.op = .assign (.tmp t)) (e1 : o.dst = some d) (g1 : o.guard = none) (h : Q .normal (a.put (some d) v) w) : (Code.region id [o].toArray false).wpIn F n P Q a w := by
  refine wpIn_region_lit (wpListIn_step fun K hK => ?_)
  simp only [Region.wanted, g1, if_true]
  refine ⟨fun f hf => by simp [Oper.about, h1] at hf, ?_⟩
  rw [Oper.semAt_eq _ _ _ (by simp [h1])]
  simp only [execOp, h1, hv, Sem.run_pure, Oper.uponIn_value, e1]
  exact hK _ _ h
theorem rg_ls {id t p d q g g2 : Nat} {t0 t2 : TypeId} {o1 o2 : Oper} {c c2 : Array Value} {ds : TypeDesc} (hp : a.eval (.tmp p) = .pointer (some ⟨g, 0, none⟩)) (hq : a.eval (.tmp q) = .pointer (some ⟨g2, 0, none⟩)) (h1 : o1.op = .load t (.tmp p)) (e1 : o1.dst = some d) (g1' : o1.guard = none) (h2 : o2.op = .store t (.tmp q) (.tmp d)) (e2 : o2.dst = none) (g2' : o2.guard = none)
    (hne : d ≠ q) (hsz : d < a.tmps.size) (hr1 : w.heap[g]? = some (.cells c t0 (0, 0))) (hr2 : w.heap[g2]? = some (.cells c2 t2 (0, 0))) (hu : P.underlying t = some ds) (hds : (match ds with | .struct _ | .array _ _ => true | _ => false) = true) (hi : (P.info? t).map (·.size) = some c.size) (hc2 : c2.size = c.size) (hone : c.all (·.oneCell') = true)
    (h : Q .normal (a.put (some d) (.agg c)) (w.setRow g2 c)) : (Code.region id [o1, o2].toArray false).wp P Q a w := by
  refine wp_region_lit (wpList_plain g1' fun K hK => ?_)
  have l1 := ld_row (P := P) (t := t) (t0 := t0) (c := c) hu hds hi w g hr1
  have s1 := st_row (P := P) (t := t) (t0 := t2) (c := c2) (n := c) hi hc2 hone w g2 hr2
  unfold Oper.wp
  simp only [execOp, h1, hp, Sem.run_bind, l1, Result.andThen_ok, Sem.run_pure, Oper.upon_value, e1]
  refine hK _ _ (wpList_plain g2' fun K' hK' => ?_)
  have ev1 : (a.put (some d) (.agg c)).eval (.tmp d) = .agg c := by simp [Act.put, Act.eval, Array.getD, hsz]
  have ev2 : (a.put (some d) (.agg c)).eval (.tmp q) = .pointer (some ⟨g2, 0, none⟩) := by
    rw [← hq]
    simp [Act.put, Act.eval, hne]
  unfold Oper.wp
  simp only [execOp, h2, ev1, ev2, Sem.run_bind, s1, Result.andThen_ok, Sem.run_pure, Oper.upon_skip, e2]
  exact hK' _ _ h
theorem mark_ret {fn : Func} {R : Ending → World → Prop} {t D g : Nat} {ty t0 : TypeId} {c : Array Value} {d : TypeDesc} (hd : a.defers = [{ target := .collected D, args := #[] }]) (hK : w.heap[D]? = some (.deferred (some []))) (hr : fn.results = #[.cell t ty]) (ht : a.tmps.getD t undef = .pointer (some ⟨g, 0, none⟩)) (hg : w.heap[g]? = some (.cells c t0 (0, 0)))
    (hu : P.underlying ty = some d) (hds : (match d with | .struct _ | .array _ _ => true | _ => false) = true) (hi : (P.info? ty).map (·.size) = some c.size) (hR : R (.returned (.agg c)) (w.putObj D (.deferred none))) : bodyPostM Fence.wide 5 P fn R .ret a w := by
  show LeavesInM Fence.wide 5 P fn a.tmps R a.defers .returning w
  rw [hd]
  refine ⟨by simp, .inl ⟨D, _, rfl, run_takeDeferred hK, ?_⟩⟩
  have hne : g ≠ D := fun e => by rw [e, hK] at hg; cases hg
  exact ⟨.agg c, results_cell_row hr _ _ g t0 c (0, 0) d ht ((World.putObj_heap_other hne).trans hg) hu hds hi, hR⟩
end
theorem two_t {p g : Nat} {A B C : World} (h : Two p g A B) (k : Two p g B C) : Two p g A C := ⟨k.1.trans h.1, k.2.trans h.2⟩
theorem two_b {p g : Nat} {w : World} (hp : p < w.heap.size) (hg : g < w.heap.size) (W : World) (l : Nat) (o o' : Obj) (hl : w.heap.size ≤ l) (_ : W.heap[l]? = some o) (_ : o.isCells = false) (_ : o.isWalk = false) : Two p g W (W.putObj l o') :=
  ⟨World.putObj_heap_other (by omega), World.putObj_heap_other (by omega)⟩

def stepM {α : Type} (add : α → α → α) (one s : α) (x : Nat) : α := if x = 1 then add (add s s) one else add s s
def fldM {α : Type} (add : α → α → α) (no one : α) (l : List Nat) : α := l.foldl (stepM add one) no
theorem fldM_1 {α : Type} (add : α → α → α) (no one : α) (l : List Nat) : fldM add no one (l ++ [1]) = add (add (fldM add no one l) (fldM add no one l)) one := by simp [fldM, stepM]
theorem fldM_0 {α : Type} (add : α → α → α) (no one : α) (l : List Nat) {x : Nat} (hx : x ≠ 1) : fldM add no one (l ++ [x]) = add (fldM add no one l) (fldM add no one l) := by simp [fldM, stepM, hx]
theorem fldM_good {α : Type} {G : α → Prop} {add : α → α → α} {no one : α} (hG : ∀ x y, G x → G y → G (add x y)) (h0 : G no) (h1 : G one) (l : List Nat) : G (fldM add no one l) := by
  suffices h : ∀ (l : List Nat) (s : α), G s → G (l.foldl (stepM add one) s) from h l no h0
  intro l
  induction l with
  | nil => intro s h; exact h
  | cons x r ih =>
    intro s h
    refine ih _ ?_
    unfold stepM
    split
    · exact hG _ _ (hG _ _ h h) h1
    · exact hG _ _ h h
end Go.Proofs.YtacokkedomjgpaaGreatDoor

namespace Go.Proofs.YtacokkedomjgpaaGreatDoor
open Go.RowKit Go.Shelf
theorem eq_u8 {x u : Operand} {m n : Nat} {b : Bool} (h : decide (m = n) = b) (w : World) : (do eqGuard .eql 5 x u (.int .u8 (m : Nat)) (.int .u8 (n : Nat)); binOp .eql 5 (.int .u8 (m : Nat)) (.int .u8 (n : Nat))).run Tryz.prog w = .ok (.bool b) w := by
  have h1 : decide (((m : Nat) : Int) = ((n : Nat) : Int)) = b := by rw [← h]; congr 1; exact propext Int.natCast_inj
  subst h1; simp [eqGuard, binOp, go_sem]; rfl
theorem ld_fnres (w : World) (q : Nat) (h : w.heap[q]? = some (.cells #[.func (.func 55) #[] #[]] 122 (0, 0))) : (Instr.loadAt 122 (.pointer (some ⟨q, 0, none⟩))).run Tryz.prog w = .ok (.func (.func 55) #[] #[]) w := by
  have h1 : w.cell? ⟨q, 0, none⟩ = some (.func (.func 55) #[] #[]) := by rw [cell_of_row _ _ _ _ _ _ h]; rfl
  simp [Instr.loadAt, Instr.sureAddr, go_sem, h1]
theorem bx_fnres (w : World) : (Instr.box 122 (.func (.func 55) #[] #[])).run Tryz.prog w = .ok (.pointer (some ⟨w.heap.size, 0, none⟩)) (w.alloc (.cells #[.func (.func 55) #[] #[]] 122)) := by
  simp [Instr.box, go_sem]
set_option maxRecDepth 100000 in
set_option maxHeartbeats 4000000 in
theorem many_res {α : Type} {Vl : α → Array Value} {G : α → Prop} {add : α → α → α} {zc0 : Array Value} (hsz : ∀ x, (Tryz.prog.info? 87).map (·.size) = some (Vl x).size) (hss : ∀ x y, (Vl x).size = (Vl y).size) (hzs : ∀ y, zc0.size = (Vl y).size) (hone : ∀ x, (Vl x).all (·.oneCell') = true)
    (hal : ∀ w : World, (Instr.alloc 87 true (.tuple #[])).run Tryz.prog w = .ok (.pointer (some ⟨w.heap.size, 0, none⟩)) (w.alloc (.cells zc0 87))) (hG : ∀ x y, G x → G y → G (add x y)) (hplus : ∀ x y, G x → G y → ∀ w, Calls Tryz.prog 55 #[.agg (Vl x), .agg (Vl y)] w fun e w' => e = .returned (.agg (Vl (add x y))) ∧ Below w.heap.size w w')
    {no one : α} (h0 : G no) (h1 : G one) {aa : Option Addr} {len cap : Nat} {f : Nat → Nat} (hm : len ≤ 1000) (W0 : World) (hb : Bs W0 aa len f) :
    Calls Tryz.prog 87 #[.slice aa len cap, .agg (Vl no), .agg (Vl one), .func (.func 55) #[] #[]] W0 fun e w' => e = .returned (.agg (Vl (fldM add no one (tops f (8 * len) (8 * len))))) ∧ Below W0.heap.size W0 w' := by
  refine s_im Tryz.func87 Tryz.ntmps87 rfl [.inl (.slice aa len cap), .inl (.agg (Vl no)), .inl (.agg (Vl one)), .inl (.func (.func 55) #[] #[])] ?_
  intro β a h
  refine sym_seq ?_
  refine St.rg h [(5, .inr (0, pt 0)), (6, .inr (1, pt 0)), (7, .inr (2, pt 0)), (8, .inr (3, pt 0))] [(Vl no, 87), (Vl one, 87), (#[.func (.func 55) #[] #[]], 122), (zc0, 87)] [] [eN 0, eN 1, eN 2, eN 3] ?_ ?_
  · exact oc (k_bx 0 (.agg (Vl no)) bx_agg rfl rfl) <|
    oc (k_bx 1 (.agg (Vl one)) bx_agg rfl rfl) <|
    oc (k_bx 2 (.func (.func 55) #[] #[]) bx_fnres rfl rfl) <|
    oc (k_al 3 hal rfl rfl) <|
    ok_nil
  clear h; intro β a w h
  refine sym_then ?_
  refine sym_seq ?_
  refine St.rg h [(11, .inl (.agg (Vl no))), (9, .inr (4, pt 0))] [(zc0, 87)] [(4, Vl no)] [eR 0, eN 4, eS 4] ?_ ?_
  · exact oc (k_ld 0 0 (.agg (Vl no)) (c := Vl no) (ld_row (t0 := 87) Tryz.underlying87 rfl (hsz no)) rfl rfl) <|
    oc (k_al 4 hal rfl rfl) <|
    oc (k_st 4 0 (.agg (Vl no)) (c := zc0) (n := Vl no) (st_row (t0 := 87) (hsz no) (hzs _) (hone no)) rfl rfl) <|
    ok_nil
  clear h; intro β a w h
  refine sym_then ?_
  replace h := St.cs h (s' := [.inl (.slice aa len cap), .inl (.agg (Vl no)), .inl (.agg (Vl one)), .inl (.func (.func 55) #[] #[]), uu, .inr (0, pt 0), .inr (1, pt 0), .inr (2, pt 0), .inr (3, pt 0), .inr (4, pt 0), uu, .inl (.agg (Vl no)), uu, uu, uu, uu, uu, uu, uu, uu, uu, uu, uu, uu, uu, uu]) (m' := [(Vl no, 87), (Vl one, 87), (#[.func (.func 55) #[] #[]], 122), (zc0, 87), (Vl no, 87)]) (by kernel_rfl) (by kernel_rfl)
  have hS : ∀ pre, G (fldM add no one pre) := fldM_good hG h0 h1
  refine sym_seq ?_
  refine sym_seq ?_
  refine rg_call2 (t := 0) (d1 := 12) (d2 := 13) (f := 84) (v := .slice aa len cap) (h.eval (by kernel_rfl) (by kernel_rfl)) rfl rfl rfl rfl rfl rfl (by rw [h.tm]; simp) (fun w => by kernel_rfl) ((figures_d aa len cap f _ (hb.later h.bel.below) hm).mono ?_)
  rintro e w2 ⟨p, g, rfl, hp1, hg1, hpc, ⟨og, hgo, hgc⟩, hgi, hb2⟩
  refine ⟨_, rfl, ?_⟩
  have h2 := h.after hb2 [.inl (.slice aa len cap), .inl (.agg (Vl no)), .inl (.agg (Vl one)), .inl (.func (.func 55) #[] #[]), uu, .inr (0, pt 0), .inr (1, pt 0), .inr (2, pt 0), .inr (3, pt 0), .inr (4, pt 0), uu, .inl (.agg (Vl no)), .inl (.slice aa len cap), .inl (.func (.func 102) #[] #[.pointer (some ⟨p, 0, none⟩)]), uu, uu, uu, uu, uu, uu, uu, uu, uu, uu, uu, uu] (by kernel_rfl)
  have ea : ((a.put (some 12) (.slice aa len cap)).put (some 13) (.func (.func 102) #[] #[.pointer (some ⟨p, 0, none⟩)])) = { tmps := ([.inl (.slice aa len cap), .inl (.agg (Vl no)), .inl (.agg (Vl one)), .inl (.func (.func 55) #[] #[]), uu, .inr (0, pt 0), .inr (1, pt 0), .inr (2, pt 0), .inr (3, pt 0), .inr (4, pt 0), uu, .inl (.agg (Vl no)), .inl (.slice aa len cap), .inl (.func (.func 102) #[] #[.pointer (some ⟨p, 0, none⟩)]), uu, uu, uu, uu, uu, uu, uu, uu, uu, uu, uu, uu].map (den β)).toArray, defers := [] } := by rw [h.tm]; kernel_rfl
  rw [ea]
  have hpl : p < w2.heap.size := cell_lt hpc
  have hgl : g < w2.heap.size := (Array.getElem?_eq_some_iff.1 hgo).1
  have hbl : ∀ b, b < 5 → β b < w.heap.size := fun b hb' => by
    have h5 := h.row b _ (List.getElem?_eq_getElem (by simpa using hb'))
    exact (Array.getElem?_eq_some_iff.1 h5).1
  have hne : ∀ x, w.heap.size ≤ x → ∀ b, b < 5 → x ≠ β b := fun x hx b hb' => by have := hbl b hb'; omega
  clear ea
  refine sym_then ?_
  refine wp_block ((wpIn_wide (n := 5)).1 ?_)
  refine wpIn_rangeFunc_ownF (F := Fence.wide) (n := 5) rfl (by decide) (gf := 102) (lb := #[.pointer (some ⟨p, 0, none⟩)]) (by kernel_rfl) trivial (enters_of Tryz.func102 (by kernel_rfl) rfl) (figs_stops p g len f hb.1 hm w2 hpc hgi) two_t (two_b hpl hgl) (Below.refl _ _) (fun _ => rfl)
    (fun pre v => St (wd W0) [.inl (.slice aa len cap), .inl (.agg (Vl no)), .inl (.agg (Vl one)), .inl (.func (.func 55) #[] #[]), uu, .inr (0, pt 0), .inr (1, pt 0), .inr (2, pt 0), .inr (3, pt 0), .inr (4, pt 0), uu, .inl (.agg (Vl no)), .inl (.slice aa len cap), .inl (.func (.func 102) #[] #[.pointer (some ⟨p, 0, none⟩)]), uu, uu, uu, uu, uu, uu, uu, uu, uu, uu, uu, uu] [(Vl no, 87), (Vl one, 87), (#[.func (.func 55) #[] #[]], 122), (zc0, 87), (Vl (fldM add no one pre), 87)] β { tmps := ([.inl (.slice aa len cap), .inl (.agg (Vl no)), .inl (.agg (Vl one)), .inl (.func (.func 55) #[] #[]), uu, .inr (0, pt 0), .inr (1, pt 0), .inr (2, pt 0), .inr (3, pt 0), .inr (4, pt 0), uu, .inl (.agg (Vl no)), .inl (.slice aa len cap), .inl (.func (.func 102) #[] #[.pointer (some ⟨p, 0, none⟩)]), uu, uu, uu, uu, uu, uu, uu, uu, uu, uu, uu, uu].map (den β)).toArray, defers := [] } v ∧ w2.heap.size ≤ v.heap.size) (fun _ _ _ => False)
    (OwnFrom.and (St.own (mm := fun pre => [(Vl no, 87), (Vl one, 87), (#[.func (.func 55) #[] #[]], 122), (zc0, 87), (Vl (fldM add no one pre), 87)]) (fun k hk => Nat.lt_of_lt_of_le hk h2.bel.size)) (fun _ _ _ _ hs hg _ => Nat.le_trans hs hg.size)) (fun _ _ _ _ _ hs _ _ => hs) ⟨h2, Nat.le_refl _⟩ (fun x => { tmps := ([.inl (.slice aa len cap), .inl (.agg (Vl no)), .inl (.agg (Vl one)), .inl (.func (.func 55) #[] #[]), uu, .inr (0, pt 0), .inr (1, pt 0), .inr (2, pt 0), .inr (3, pt 0), .inr (4, pt 0), .inl (.int .u8 (x : Nat)), .inl (.agg (Vl no)), .inl (.slice aa len cap), .inl (.func (.func 102) #[] #[.pointer (some ⟨p, 0, none⟩)]), .inl (.int .u8 (x : Nat)), uu, uu, uu, uu, uu, uu, uu, uu, uu, uu, uu].map (den β)).toArray, defers := [] }) ?assign ?body ?done ?stop
  case assign =>
    intro l x v K hK
    refine rg_as (t := 14) (d := 10) (v := .int .u8 (x : Nat)) (by kernel_rfl) rfl rfl rfl ?_
    have e : ∀ z : Act, z = { tmps := ([.inl (.slice aa len cap), .inl (.agg (Vl no)), .inl (.agg (Vl one)), .inl (.func (.func 55) #[] #[]), uu, .inr (0, pt 0), .inr (1, pt 0), .inr (2, pt 0), .inr (3, pt 0), .inr (4, pt 0), .inl (.int .u8 (x : Nat)), .inl (.agg (Vl no)), .inl (.slice aa len cap), .inl (.func (.func 102) #[] #[.pointer (some ⟨p, 0, none⟩)]), .inl (.int .u8 (x : Nat)), uu, uu, uu, uu, uu, uu, uu, uu, uu, uu, uu].map (den β)).toArray, defers := [] } → K z v := fun z h => h ▸ hK
    exact e _ (by kernel_rfl)
  case body =>
    rintro l pre x v ⟨hI, hvs⟩ hlt
    have hS := hS pre
    generalize hSe : fldM add no one pre = S at hI hS
    have h := hI.round [.inl (.slice aa len cap), .inl (.agg (Vl no)), .inl (.agg (Vl one)), .inl (.func (.func 55) #[] #[]), uu, .inr (0, pt 0), .inr (1, pt 0), .inr (2, pt 0), .inr (3, pt 0), .inr (4, pt 0), .inl (.int .u8 (x : Nat)), .inl (.agg (Vl no)), .inl (.slice aa len cap), .inl (.func (.func 102) #[] #[.pointer (some ⟨p, 0, none⟩)]), .inl (.int .u8 (x : Nat)), uu, uu, uu, uu, uu, uu, uu, uu, uu, uu, uu] (by kernel_rfl)
    have eb : ∀ c, c < 5 → β c = β c := fun _ _ => rfl
    replace h := h.o0
    by_cases hx : x = 1
    · refine wpIn_block ?_
      refine wpIn_seq ?_
      refine St.rgR h [(15, .inl (.func (.func 55) #[] #[])), (16, .inl (.agg (Vl S))), (17, .inl (.agg (Vl S))), (18, .inl (.agg (Vl (add S S))))] [] [(4, Vl (add S S))] [eR 2, eR 4, eR 4, nn, eS 4] ?_ ?_
      · exact oc (k_ld 2 0 (.func (.func 55) #[] #[]) (c := #[.func (.func 55) #[] #[]]) ld_fnres rfl rfl) <|
        oc (k_ld 4 0 (.agg (Vl S)) (c := Vl S) (ld_row (t0 := 87) Tryz.underlying87 rfl (hsz S)) rfl rfl) <|
        oc (k_ld 4 0 (.agg (Vl S)) (c := Vl S) (ld_row (t0 := 87) Tryz.underlying87 rfl (hsz S)) rfl rfl) <|
        oc (k_cv #[] #[.agg (Vl S), .agg (Vl S)] #[.agg (Vl S), .agg (Vl S)] (.agg (Vl (add S S))) (hplus _ _ hS hS) rfl rfl) <|
        oc (k_st 4 0 (.agg (Vl (add S S))) (c := Vl S) (n := Vl (add S S)) (st_row (t0 := 87) (hsz (add S S)) (hss _ _) (hone (add S S))) rfl rfl) <|
        ok_nil
      clear h; intro β' a w e h; replace eb := eb_trans (k := 5) e eb; clear e
      refine thenR ?_
      refine wpIn_seq ?_
      refine St.rgR h [(19, .inl (.int .u8 (x : Nat))), (20, .inl (.bool true))] [] [] [] ?_ ?_
      · exact oz (k_mv (.inl rfl) rfl) <|
        oz (k_bi (.int .u8 (x : Nat)) (.int .u8 (1 : Nat)) (.bool true) (eq_u8 (m := x) (n := 1) (decide_eq_true (by omega))) rfl rfl) <|
        ok_nil
      clear h; intro β' a w e h; replace eb := eb_trans (k := 5) e eb; clear e
      refine thenR ?_
      refine s_ctR h ?_
      refine St.rgR h [(21, .inl (.func (.func 55) #[] #[])), (22, .inl (.agg (Vl (add S S)))), (23, .inl (.agg (Vl one))), (24, .inl (.agg (Vl (add (add S S) one))))] [] [(4, Vl (add (add S S) one))] [eR 2, eR 4, eR 1, nn, eS 4] ?_ ?_
      · exact oc (k_ld 2 0 (.func (.func 55) #[] #[]) (c := #[.func (.func 55) #[] #[]]) ld_fnres rfl rfl) <|
        oc (k_ld 4 0 (.agg (Vl (add S S))) (c := Vl (add S S)) (ld_row (t0 := 87) Tryz.underlying87 rfl (hsz (add S S))) rfl rfl) <|
        oc (k_ld 1 0 (.agg (Vl one)) (c := Vl one) (ld_row (t0 := 87) Tryz.underlying87 rfl (hsz one)) rfl rfl) <|
        oc (k_cv #[] #[.agg (Vl (add S S)), .agg (Vl one)] #[.agg (Vl (add S S)), .agg (Vl one)] (.agg (Vl (add (add S S) one))) (hplus _ _ (hG _ _ hS hS) h1) rfl rfl) <|
        oc (k_st 4 0 (.agg (Vl (add (add S S) one))) (c := Vl (add S S)) (n := Vl (add (add S S) one)) (st_row (t0 := 87) (hsz (add (add S S) one)) (hss _ _) (hone (add (add S S) one))) rfl rfl) <|
        ok_nil
      clear h; intro β' a w e h; replace eb := eb_trans (k := 5) e eb; clear e
      refine blk_norm ?_
      obtain ⟨q1, q2, q3⟩ := hI.back h eb rfl (by kernel_rfl)
      exact ⟨q2, ⟨q3 p (Nat.lt_of_lt_of_le hpl hvs) (hne p hp1), q3 g (Nat.lt_of_lt_of_le hgl hvs) (hne g hg1)⟩, by rw [hx, fldM_1, hSe]; exact q1, Nat.le_trans hvs q2.size⟩
    · refine wpIn_block ?_
      refine wpIn_seq ?_
      refine St.rgR h [(15, .inl (.func (.func 55) #[] #[])), (16, .inl (.agg (Vl S))), (17, .inl (.agg (Vl S))), (18, .inl (.agg (Vl (add S S))))] [] [(4, Vl (add S S))] [eR 2, eR 4, eR 4, nn, eS 4] ?_ ?_
      · exact oc (k_ld 2 0 (.func (.func 55) #[] #[]) (c := #[.func (.func 55) #[] #[]]) ld_fnres rfl rfl) <|
        oc (k_ld 4 0 (.agg (Vl S)) (c := Vl S) (ld_row (t0 := 87) Tryz.underlying87 rfl (hsz S)) rfl rfl) <|
        oc (k_ld 4 0 (.agg (Vl S)) (c := Vl S) (ld_row (t0 := 87) Tryz.underlying87 rfl (hsz S)) rfl rfl) <|
        oc (k_cv #[] #[.agg (Vl S), .agg (Vl S)] #[.agg (Vl S), .agg (Vl S)] (.agg (Vl (add S S))) (hplus _ _ hS hS) rfl rfl) <|
        oc (k_st 4 0 (.agg (Vl (add S S))) (c := Vl S) (n := Vl (add S S)) (st_row (t0 := 87) (hsz (add S S)) (hss _ _) (hone (add S S))) rfl rfl) <|
        ok_nil
      clear h; intro β' a w e h; replace eb := eb_trans (k := 5) e eb; clear e
      refine thenR ?_
      refine wpIn_seq ?_
      refine St.rgR h [(19, .inl (.int .u8 (x : Nat))), (20, .inl (.bool false))] [] [] [] ?_ ?_
      · exact oz (k_mv (.inl rfl) rfl) <|
        oz (k_bi (.int .u8 (x : Nat)) (.int .u8 (1 : Nat)) (.bool false) (eq_u8 (m := x) (n := 1) (decide_eq_false (by omega))) rfl rfl) <|
        ok_nil
      clear h; intro β' a w e h; replace eb := eb_trans (k := 5) e eb; clear e
      refine thenR ?_
      refine s_cfR h ?_
      refine wpIn_skip ?_
      refine blk_norm ?_
      obtain ⟨q1, q2, q3⟩ := hI.back h eb rfl (by kernel_rfl)
      exact ⟨q2, ⟨q3 p (Nat.lt_of_lt_of_le hpl hvs) (hne p hp1), q3 g (Nat.lt_of_lt_of_le hgl hvs) (hne g hg1)⟩, by rw [fldM_0 _ _ _ _ hx, hSe]; exact q1, Nat.le_trans hvs q2.size⟩
  case done =>
    rintro D xs v hD rfl ⟨hI, hvs⟩ hK
    refine blk_norm ?_
    refine sym_then ?_
    refine sym_seq ?_
    have r1 := hI.row 4 _ rfl
    have r2 := hI.row 3 _ rfl
    have hD3 : D ≠ β 3 := fun e => by rw [e, r2] at hK; cases hK
    have hB := hI.bel.below
    have o3 := Nat.le_of_not_lt (hI.old 3 (by simp))
    refine rg_ls (p := 9) (d := 25) (q := 8) (t := 87) (by kernel_rfl) (by kernel_rfl) rfl rfl rfl rfl rfl rfl (by decide) (by simp) r1 r2 Tryz.underlying87 rfl (hsz _) (hzs _) (hone _) ?_
    refine sym_then ?_
    refine wp_ret ?_
    refine mark_ret (D := D) (g := β 3) rfl ((setRow_other _ _ _ _ hD3).trans hK) Tryz.results87 (by kernel_rfl) (setRow_heap _ _ _ _ _ _ r2) Tryz.underlying87 rfl (hsz _) ⟨rfl, ?_⟩
    refine (below_setRow hB o3 _).trans (belowK_b (w := w2) h2.bel.size _ D _ _ hD ((setRow_other _ _ _ _ hD3).trans hK) rfl rfl)
  case stop =>
    rintro D c pre v _ _ h _
    exact h.elim
end Go.Proofs.YtacokkedomjgpaaGreatDoor

namespace Go.Proofs.YtacokkedomjgpaaGreatDoor
open Go.RowKit Go.Shelf

def w4 (a b c d : Nat) : Array Value := #[.int .u64 (a : Nat), .int .u64 (b : Nat), .int .u64 (c : Nat), .int .u64 (d : Nat)]
theorem ld_w {c : Array Value} {i v : Nat} (t0 : TypeId) (hi : c[i]? = some (.int .u64 (v : Nat))) (w : World) (q : Nat) (h : w.heap[q]? = some (.cells c t0 (0, 0))) : (Instr.loadAt 42 (.pointer (some ⟨q, i, none⟩))).run Tryz.prog w = .ok (.int .u64 (v : Nat)) w := by
  have h1 : w.cell? ⟨q, i, none⟩ = some (.int .u64 (v : Nat)) := by rw [cell_of_row _ _ _ _ _ _ h]; exact hi
  simp [Instr.loadAt, Instr.sureAddr, go_sem, h1]
theorem st_w {c n : Array Value} {i v : Nat} (t0 : TypeId) {u : Value} (hi : c[i]? = some u) (hs : c.setIfInBounds i (.int .u64 (v : Nat)) = n) (w : World) (q : Nat) (h : w.heap[q]? = some (.cells c t0 (0, 0))) : (Instr.storeAt 42 (.pointer (some ⟨q, i, none⟩)) (.int .u64 (v : Nat))).run Tryz.prog w = .ok () (w.setRow q n) := by
  have h1 : w.cell? ⟨q, i, none⟩ = some u := by rw [cell_of_row _ _ _ _ _ _ h]; exact hi
  have h2 : w.setCell ⟨q, i, none⟩ (.int .u64 (v : Nat)) = w.setRow q n := by rw [set_row h, hs]
  have h3 : w.frozen? ⟨q, i, none⟩ = false := by simp [World.frozen?, h]
  simp [Instr.storeAt, Instr.sureAddr, go_sem, h1, h2, h3]
theorem w4_one (a b c d : Nat) : (w4 a b c d).all (·.oneCell') = true := by simp [w4, Value.oneCell']
theorem ldW {a b c d : Nat} (t0 : TypeId) (w : World) (q : Nat) (h : w.heap[q]? = some (.cells (w4 a b c d) t0 (0, 0))) : (Instr.loadAt 87 (.pointer (some ⟨q, 0, none⟩))).run Tryz.prog w = .ok (.agg (w4 a b c d)) w :=
  ld_row (c := w4 a b c d) Tryz.underlying87 rfl (by kernel_rfl) w q h
theorem stW {a b c d : Nat} {e : Array Value} (t0 : TypeId) (he : e.size = 4) (w : World) (q : Nat) (h : w.heap[q]? = some (.cells e t0 (0, 0))) : (Instr.storeAt 87 (.pointer (some ⟨q, 0, none⟩)) (.agg (w4 a b c d))).run Tryz.prog w = .ok () (w.setRow q (w4 a b c d)) :=
  st_row (n := w4 a b c d) (by kernel_rfl) he (w4_one _ _ _ _) w q h
theorem alW (w : World) : (Instr.alloc 87 true (.tuple #[])).run Tryz.prog w = .ok (.pointer (some ⟨w.heap.size, 0, none⟩)) (w.alloc (.cells (w4 0 0 0 0) 87)) := by
  simp [Instr.alloc, go_sem]
  rfl
theorem bxW {a b c d : Nat} (w : World) : (Instr.box 87 (.agg (w4 a b c d))).run Tryz.prog w = .ok (.pointer (some ⟨w.heap.size, 0, none⟩)) (w.alloc (.cells (w4 a b c d) 87)) := bx_agg w
theorem eq_u64 {x u : Operand} {m n : Nat} {b : Bool} (h : decide (m = n) = b) (w : World) : (do eqGuard .eql 42 x u (.int .u64 (m : Nat)) (.int .u64 (n : Nat)); binOp .eql 42 (.int .u64 (m : Nat)) (.int .u64 (n : Nat))).run Tryz.prog w = .ok (.bool b) w := by
  have h1 : (((m : Nat) : Int) == ((n : Nat) : Int)) = b := by rw [← h, Bool.eq_iff_iff]; simp; omega
  simp [eqGuard, binOp, go_sem, h1]

theorem ad_k {x u : Operand} {m n k : Nat} (h : m + n = k) (hk : k < 9223372036854775808) (w : World) : (do eqGuard .add 3 x u (.int .i64 (m : Nat)) (.int .i64 (n : Nat)); binOp .add 3 (.int .i64 (m : Nat)) (.int .i64 (n : Nat))).run Tryz.prog w = .ok (.int .i64 (k : Nat)) w := by
  subst h; exact ad_i hk w
def oL : Nat := 7237005577332262213973186563042994240857116359379907606001950938285454250989
def rs (n : Nat) : Array Value := w4 (n % 18446744073709551616) (n / 18446744073709551616 % 18446744073709551616) (n / 340282366920938463463374607431768211456 % 18446744073709551616) (n / 6277101735386680763835789423207666416102355444464034512896 % 18446744073709551616)
theorem rs_of {a b c d n : Nat} (ha : a < 18446744073709551616) (hb : b < 18446744073709551616) (hc : c < 18446744073709551616) (hd : d < 18446744073709551616) (h : n = a + 18446744073709551616 * b + 340282366920938463463374607431768211456 * c + 6277101735386680763835789423207666416102355444464034512896 * d) : w4 a b c d = rs n := by
  unfold rs
  have e1 : n % 18446744073709551616 = a := by omega
  have e2 : n / 18446744073709551616 % 18446744073709551616 = b := by omega
  have e3 : n / 340282366920938463463374607431768211456 % 18446744073709551616 = c := by omega
  have e4 : n / 6277101735386680763835789423207666416102355444464034512896 % 18446744073709551616 = d := by omega
  rw [e1, e2, e3, e4]
end Go.Proofs.YtacokkedomjgpaaGreatDoor

namespace Go.Proofs.YtacokkedomjgpaaGreatDoor
open Go.RowKit Go.Shelf

theorem order_r (W0 : World) : Calls Tryz.prog 88 #[] W0 fun e w' => e = .returned (.agg (w4 6346243789798364141 1503914060200516822 0 1152921504606846976)) ∧ Below W0.heap.size W0 w' := by
  refine s_in Tryz.func88 Tryz.ntmps88 rfl [] ?_
  intro β a h
  refine sym_seq ?_
  refine St.rg h [(0, .inr (0, pt 0))] [(w4 0 0 0 0, 87)] [] [eN 0] ?_ ?_
  · exact oc (k_al 0 alW rfl rfl) <|
    ok_nil
  clear h; intro β a w h
  refine sym_then ?_
  refine sym_seq ?_
  refine St.rg h [(1, .inl (.agg (w4 6346243789798364141 1503914060200516822 0 1152921504606846976)))] [] [(0, w4 6346243789798364141 1503914060200516822 0 1152921504606846976)] [nn, eS 0] ?_ ?_
  · exact oc (k_bu #[(0, .int .u64 (6346243789798364141 : Nat)), (1, .int .u64 (1503914060200516822 : Nat)), (2, .int .u64 (0 : Nat)), (3, .int .u64 (1152921504606846976 : Nat))] (.agg (w4 6346243789798364141 1503914060200516822 0 1152921504606846976)) (fun w => by kernel_rfl) rfl rfl) <|
    oc (k_st 0 0 (.agg (w4 6346243789798364141 1503914060200516822 0 1152921504606846976)) (c := w4 0 0 0 0) (n := w4 6346243789798364141 1503914060200516822 0 1152921504606846976) (stW 87 rfl) rfl rfl) <|
    ok_nil
  clear h; intro β a w h
  refine sym_then ?_
  refine wp_ret ?_
  exact s_rc (b := 0) (t0 := 87) (c := w4 6346243789798364141 1503914060200516822 0 1152921504606846976) h Tryz.results88 Tryz.underlying87 (fun hb => ⟨rfl, hb⟩) (by kernel_rfl)

set_option maxHeartbeats 4000000 in
theorem pls_s {a0 a1 a2 a3 b0 b1 b2 b3 s0 s1 s2 s3 k0 k1 k2 k3 r0 r1 r2 r3 e0 e1 e2 e3 : Nat} (ca0 : (∀ w, (callFunc 89 #[.int .u64 (a0 : Nat), .int .u64 (b0 : Nat), .int .u64 (0 : Nat)]).run Tryz.prog w = .ok (.value (.tuple #[.int .u64 (s0 : Nat), .int .u64 (k0 : Nat)])) w)) (ca1 : (∀ w, (callFunc 89 #[.int .u64 (a1 : Nat), .int .u64 (b1 : Nat), .int .u64 (k0 : Nat)]).run Tryz.prog w = .ok (.value (.tuple #[.int .u64 (s1 : Nat), .int .u64 (k1 : Nat)])) w)) (ca2 : (∀ w, (callFunc 89 #[.int .u64 (a2 : Nat), .int .u64 (b2 : Nat), .int .u64 (k1 : Nat)]).run Tryz.prog w = .ok (.value (.tuple #[.int .u64 (s2 : Nat), .int .u64 (k2 : Nat)])) w)) (ca3 : (∀ w, (callFunc 89 #[.int .u64 (a3 : Nat), .int .u64 (b3 : Nat), .int .u64 (k2 : Nat)]).run Tryz.prog w = .ok (.value (.tuple #[.int .u64 (s3 : Nat), .int .u64 (k3 : Nat)])) w))
    (cs0 : (∀ w, (callFunc 90 #[.int .u64 (s0 : Nat), .int .u64 (6346243789798364141 : Nat), .int .u64 (0 : Nat)]).run Tryz.prog w = .ok (.value (.tuple #[.int .u64 (r0 : Nat), .int .u64 (e0 : Nat)])) w)) (cs1 : (∀ w, (callFunc 90 #[.int .u64 (s1 : Nat), .int .u64 (1503914060200516822 : Nat), .int .u64 (e0 : Nat)]).run Tryz.prog w = .ok (.value (.tuple #[.int .u64 (r1 : Nat), .int .u64 (e1 : Nat)])) w)) (cs2 : (∀ w, (callFunc 90 #[.int .u64 (s2 : Nat), .int .u64 (0 : Nat), .int .u64 (e1 : Nat)]).run Tryz.prog w = .ok (.value (.tuple #[.int .u64 (r2 : Nat), .int .u64 (e2 : Nat)])) w)) (cs3 : (∀ w, (callFunc 90 #[.int .u64 (s3 : Nat), .int .u64 (1152921504606846976 : Nat), .int .u64 (e2 : Nat)]).run Tryz.prog w = .ok (.value (.tuple #[.int .u64 (r3 : Nat), .int .u64 (e3 : Nat)])) w))
    (hb : e3 = 1) (W0 : World) : Calls Tryz.prog 55 #[.agg (w4 a0 a1 a2 a3), .agg (w4 b0 b1 b2 b3)] W0 fun e w' => e = .returned (.agg (w4 s0 s1 s2 s3)) ∧ Below W0.heap.size W0 w' := by
  refine s_in Tryz.func55 Tryz.ntmps55 rfl [.inl (.agg (w4 a0 a1 a2 a3)), .inl (.agg (w4 b0 b1 b2 b3))] ?_
  intro β a h
  refine sym_seq ?_
  refine St.rg h [(2, .inr (0, pt 0)), (3, .inr (1, pt 0)), (4, .inr (2, pt 0))] [(w4 a0 a1 a2 a3, 87), (w4 b0 b1 b2 b3, 87), (w4 0 0 0 0, 87)] [] [eN 0, eN 1, eN 2] ?_ ?_
  · exact oc (k_bx 0 (.agg (w4 a0 a1 a2 a3)) bxW rfl rfl) <|
    oc (k_bx 1 (.agg (w4 b0 b1 b2 b3)) bxW rfl rfl) <|
    oc (k_al 2 alW rfl rfl) <|
    ok_nil
  clear h; intro β a w h
  refine sym_then ?_
  refine sym_seq ?_
  refine St.rg h [(5, .inr (3, pt 0)), (6, .inr (4, pt 0))] [(w4 0 0 0 0, 87), (w4 0 0 0 0, 87)] [] [eN 3, eN 4] ?_ ?_
  · exact oc (k_al 3 alW rfl rfl) <|
    oc (k_al 4 alW rfl rfl) <|
    ok_nil
  clear h; intro β a w h
  refine sym_then ?_
  refine sym_seq ?_
  refine St.r0 h [(7, .inl (.int .u64 (0 : Nat))), (8, .inl (.int .u64 (0 : Nat)))] [] ?_ ?_
  · exact oz (k_mv (.inr rfl) rfl) <|
    oz (k_mv (.inr rfl) rfl) <|
    ok_nil
  clear h; intro β a w h
  refine sym_then ?_
  refine sym_seq ?_
  refine sym_seq ?_
  refine St.r0 h [(11, .inl (.agg (w4 6346243789798364141 1503914060200516822 0 1152921504606846976))), (12, .inl (.int .i64 (0 : Nat)))] [] ?_ ?_
  · exact oz (k_ca 88 #[] (.agg (w4 6346243789798364141 1503914060200516822 0 1152921504606846976)) order_r rfl rfl) <|
    oz (k_mv (.inl rfl) rfl) <|
    ok_nil
  clear h; intro β a w h
  refine sym_then ?_
  refine blk_in ?_
  refine wp_loop_rounds 5 ?_
  refine rounds_1 ?_
  refine sym_seq ?_
  refine St.r0 h [(13, .inl (.bool true))] [] ?_ ?_
  · exact oz (k_bi (.int .i64 (0 : Nat)) (.int .i64 (4 : Nat)) (.bool true) (lt_i (m := ((0 : Nat) : Int)) (n := ((4 : Nat) : Int)) (by decide)) rfl rfl) <|
    ok_nil
  clear h; intro β a w h
  refine sym_then ?_
  refine sym_seq ?_
  refine s_ct h ?_
  refine wp_skip ?_
  refine sym_then ?_
  refine sym_seq ?_
  refine blk_in ?_
  refine sym_seq ?_
  refine St.r0 h [(14, .inl (.int .i64 (0 : Nat))), (15, .inl (.int .u64 (6346243789798364141 : Nat))), (9, .inl (.int .i64 (0 : Nat))), (10, .inl (.int .u64 (6346243789798364141 : Nat)))] [] ?_ ?_
  · exact oz (k_mv (.inl rfl) rfl) <|
    oz (k_ix (.agg (w4 6346243789798364141 1503914060200516822 0 1152921504606846976)) (.int .i64 (0 : Nat)) (.int .u64 (6346243789798364141 : Nat)) (fun w => by kernel_rfl) rfl rfl) <|
    oz (k_mv (.inr rfl) rfl) <|
    oz (k_mv (.inr rfl) rfl) <|
    ok_nil
  clear h; intro β a w h
  refine sym_then ?_
  refine sym_seq ?_
  refine St.rg h [(17, .inl (.int .i64 (0 : Nat))), (18, .inl (.int .i64 (0 : Nat))), (19, .inr (0, pt 0)), (20, .inl (.int .u64 (a0 : Nat))), (21, .inl (.int .i64 (0 : Nat))), (22, .inr (1, pt 0)), (23, .inl (.int .u64 (b0 : Nat))), (24, .inl (.int .u64 (0 : Nat))), (25, .inl (.tuple #[.int .u64 (s0 : Nat), .int .u64 (k0 : Nat)])), (16, .inl (.tuple #[.int .u64 (s0 : Nat), .int .u64 (k0 : Nat)])), (26, .inl (.int .u64 (s0 : Nat))), (27, .inl (.int .u64 (k0 : Nat))), (28, .inr (3, pt 0)), (7, .inl (.int .u64 (k0 : Nat)))] [] [(3, w4 s0 0 0 0)] [nn, nn, nn, eR 0, nn, nn, eR 1, eO, nn, nn, nn, nn, nn, eS 3] ?_ ?_
  · exact oc (k_mv (.inl rfl) rfl) <|
    oc (k_mv (.inl rfl) rfl) <|
    oc (k_ia 0 0 0 (.int .i64 (0 : Nat)) (fun w q => by kernel_rfl) rfl rfl) <|
    oc (k_ld 0 0 (.int .u64 (a0 : Nat)) (c := w4 a0 a1 a2 a3) (ld_w (i := 0) (v := a0) 87 rfl) rfl rfl) <|
    oc (k_mv (.inl rfl) rfl) <|
    oc (k_ia 1 0 0 (.int .i64 (0 : Nat)) (fun w q => by kernel_rfl) rfl rfl) <|
    oc (k_ld 1 0 (.int .u64 (b0 : Nat)) (c := w4 b0 b1 b2 b3) (ld_w (i := 0) (v := b0) 87 rfl) rfl rfl) <|
    oc (k_m0 rfl rfl) <|
    oc (k_cx 89 #[.int .u64 (a0 : Nat), .int .u64 (b0 : Nat), .int .u64 (0 : Nat)] (.tuple #[.int .u64 (s0 : Nat), .int .u64 (k0 : Nat)]) ca0 rfl rfl) <|
    oc (k_mv (.inl rfl) rfl) <|
    oc (k_ex (.tuple #[.int .u64 (s0 : Nat), .int .u64 (k0 : Nat)]) (.int .u64 (s0 : Nat)) rfl rfl) <|
    oc (k_ex (.tuple #[.int .u64 (s0 : Nat), .int .u64 (k0 : Nat)]) (.int .u64 (k0 : Nat)) rfl rfl) <|
    oc (k_ia 3 0 0 (.int .i64 (0 : Nat)) (fun w q => by kernel_rfl) rfl rfl) <|
    oc (k_st 3 0 (.int .u64 (s0 : Nat)) (c := w4 0 0 0 0) (n := w4 s0 0 0 0) (st_w (i := 0) (v := s0) (n := w4 s0 0 0 0) 87 rfl rfl) rfl rfl) <|
    oz (k_mv (.inr rfl) rfl) <|
    ok_nil
  clear h; intro β a w h
  refine sym_then ?_
  refine St.rg h [(30, .inl (.int .i64 (0 : Nat))), (31, .inl (.int .i64 (0 : Nat))), (32, .inr (3, pt 0)), (33, .inl (.int .u64 (s0 : Nat))), (34, .inl (.int .u64 (6346243789798364141 : Nat))), (35, .inl (.int .u64 (0 : Nat))), (36, .inl (.tuple #[.int .u64 (r0 : Nat), .int .u64 (e0 : Nat)])), (29, .inl (.tuple #[.int .u64 (r0 : Nat), .int .u64 (e0 : Nat)])), (37, .inl (.int .u64 (r0 : Nat))), (38, .inl (.int .u64 (e0 : Nat))), (39, .inr (4, pt 0)), (8, .inl (.int .u64 (e0 : Nat)))] [] [(4, w4 r0 0 0 0)] [nn, nn, nn, eR 3, nn, eO, nn, nn, nn, nn, nn, eS 4] ?_ ?_
  · exact oc (k_mv (.inl rfl) rfl) <|
    oc (k_mv (.inl rfl) rfl) <|
    oc (k_ia 3 0 0 (.int .i64 (0 : Nat)) (fun w q => by kernel_rfl) rfl rfl) <|
    oc (k_ld 3 0 (.int .u64 (s0 : Nat)) (c := w4 s0 0 0 0) (ld_w (i := 0) (v := s0) 87 rfl) rfl rfl) <|
    oc (k_mv (.inl rfl) rfl) <|
    oc (k_m0 rfl rfl) <|
    oc (k_cx 90 #[.int .u64 (s0 : Nat), .int .u64 (6346243789798364141 : Nat), .int .u64 (0 : Nat)] (.tuple #[.int .u64 (r0 : Nat), .int .u64 (e0 : Nat)]) cs0 rfl rfl) <|
    oc (k_mv (.inl rfl) rfl) <|
    oc (k_ex (.tuple #[.int .u64 (r0 : Nat), .int .u64 (e0 : Nat)]) (.int .u64 (r0 : Nat)) rfl rfl) <|
    oc (k_ex (.tuple #[.int .u64 (r0 : Nat), .int .u64 (e0 : Nat)]) (.int .u64 (e0 : Nat)) rfl rfl) <|
    oc (k_ia 4 0 0 (.int .i64 (0 : Nat)) (fun w q => by kernel_rfl) rfl rfl) <|
    oc (k_st 4 0 (.int .u64 (r0 : Nat)) (c := w4 0 0 0 0) (n := w4 r0 0 0 0) (st_w (i := 0) (v := r0) (n := w4 r0 0 0 0) 87 rfl rfl) rfl rfl) <|
    oz (k_mv (.inr rfl) rfl) <|
    ok_nil
  clear h; intro β a w h
  refine blk_norm ?_
  refine sym_then ?_
  refine St.r0 h [(40, .inl (.int .i64 (1 : Nat))), (12, .inl (.int .i64 (1 : Nat)))] [eO] ?_ ?_
  · exact oc (k_b0 (.int .i64 (0 : Nat)) (.int .i64 (1 : Nat)) (.int .i64 (1 : Nat)) (ad_k (m := 0) (n := 1) rfl (by decide)) rfl rfl) <|
    oz (k_mv (.inl rfl) rfl) <|
    ok_nil
  clear h; intro β a w h
  refine then_norm ?_
  replace h := St.cs h (s' := [.inl (.agg (w4 a0 a1 a2 a3)), .inl (.agg (w4 b0 b1 b2 b3)), .inr (0, pt 0), .inr (1, pt 0), .inr (2, pt 0), .inr (3, pt 0), .inr (4, pt 0), .inl (.int .u64 (k0 : Nat)), .inl (.int .u64 (e0 : Nat)), .inl (.int .i64 (0 : Nat)), .inl (.int .u64 (6346243789798364141 : Nat)), .inl (.agg (w4 6346243789798364141 1503914060200516822 0 1152921504606846976)), .inl (.int .i64 (1 : Nat)), .inl (.bool true), .inl (.int .i64 (0 : Nat)), .inl (.int .u64 (6346243789798364141 : Nat)), .inl (.tuple #[.int .u64 (s0 : Nat), .int .u64 (k0 : Nat)]), .inl (.int .i64 (0 : Nat)), .inl (.int .i64 (0 : Nat)), .inr (0, pt 0), .inl (.int .u64 (a0 : Nat)), .inl (.int .i64 (0 : Nat)), .inr (1, pt 0), .inl (.int .u64 (b0 : Nat)), .inl (.int .u64 (0 : Nat)), .inl (.tuple #[.int .u64 (s0 : Nat), .int .u64 (k0 : Nat)]), .inl (.int .u64 (s0 : Nat)), .inl (.int .u64 (k0 : Nat)), .inr (3, pt 0), .inl (.tuple #[.int .u64 (r0 : Nat), .int .u64 (e0 : Nat)]), .inl (.int .i64 (0 : Nat)), .inl (.int .i64 (0 : Nat)), .inr (3, pt 0), .inl (.int .u64 (s0 : Nat)), .inl (.int .u64 (6346243789798364141 : Nat)), .inl (.int .u64 (0 : Nat)), .inl (.tuple #[.int .u64 (r0 : Nat), .int .u64 (e0 : Nat)]), .inl (.int .u64 (r0 : Nat)), .inl (.int .u64 (e0 : Nat)), .inr (4, pt 0), .inl (.int .i64 (1 : Nat)), uu, uu, uu, uu]) (m' := [(w4 a0 a1 a2 a3, 87), (w4 b0 b1 b2 b3, 87), (w4 0 0 0 0, 87), (w4 s0 0 0 0, 87), (w4 r0 0 0 0, 87)]) (by kernel_rfl) (by kernel_rfl)
  replace h := h.o0
  refine rounds_1 ?_
  refine sym_seq ?_
  refine St.r0 h [] [] ?_ ?_
  · exact oz (k_bi (.int .i64 (1 : Nat)) (.int .i64 (4 : Nat)) (.bool true) (lt_i (m := ((1 : Nat) : Int)) (n := ((4 : Nat) : Int)) (by decide)) rfl rfl) <|
    ok_nil
  clear h; intro β a w h
  refine sym_then ?_
  refine sym_seq ?_
  refine s_ct h ?_
  refine wp_skip ?_
  refine sym_then ?_
  refine sym_seq ?_
  refine blk_in ?_
  refine sym_seq ?_
  refine St.r0 h [(14, .inl (.int .i64 (1 : Nat))), (15, .inl (.int .u64 (1503914060200516822 : Nat))), (9, .inl (.int .i64 (1 : Nat))), (10, .inl (.int .u64 (1503914060200516822 : Nat)))] [] ?_ ?_
  · exact oz (k_mv (.inl rfl) rfl) <|
    oz (k_ix (.agg (w4 6346243789798364141 1503914060200516822 0 1152921504606846976)) (.int .i64 (1 : Nat)) (.int .u64 (1503914060200516822 : Nat)) (fun w => by kernel_rfl) rfl rfl) <|
    oz (k_mv (.inr rfl) rfl) <|
    oz (k_mv (.inr rfl) rfl) <|
    ok_nil
  clear h; intro β a w h
  refine sym_then ?_
  refine sym_seq ?_
  refine St.rg h [(17, .inl (.int .i64 (1 : Nat))), (18, .inl (.int .i64 (1 : Nat))), (19, .inr (0, pt 1)), (20, .inl (.int .u64 (a1 : Nat))), (21, .inl (.int .i64 (1 : Nat))), (22, .inr (1, pt 1)), (23, .inl (.int .u64 (b1 : Nat))), (24, .inl (.int .u64 (k0 : Nat))), (25, .inl (.tuple #[.int .u64 (s1 : Nat), .int .u64 (k1 : Nat)])), (16, .inl (.tuple #[.int .u64 (s1 : Nat), .int .u64 (k1 : Nat)])), (26, .inl (.int .u64 (s1 : Nat))), (27, .inl (.int .u64 (k1 : Nat))), (28, .inr (3, pt 1)), (7, .inl (.int .u64 (k1 : Nat)))] [] [(3, w4 s0 s1 0 0)] [nn, nn, nn, eR 0, nn, nn, eR 1, eO, nn, nn, nn, nn, nn, eS 3] ?_ ?_
  · exact oc (k_mv (.inl rfl) rfl) <|
    oc (k_mv (.inl rfl) rfl) <|
    oc (k_ia 0 0 1 (.int .i64 (1 : Nat)) (fun w q => by kernel_rfl) rfl rfl) <|
    oc (k_ld 0 1 (.int .u64 (a1 : Nat)) (c := w4 a0 a1 a2 a3) (ld_w (i := 1) (v := a1) 87 rfl) rfl rfl) <|
    oc (k_mv (.inl rfl) rfl) <|
    oc (k_ia 1 0 1 (.int .i64 (1 : Nat)) (fun w q => by kernel_rfl) rfl rfl) <|
    oc (k_ld 1 1 (.int .u64 (b1 : Nat)) (c := w4 b0 b1 b2 b3) (ld_w (i := 1) (v := b1) 87 rfl) rfl rfl) <|
    oc (k_m0 rfl rfl) <|
    oc (k_cx 89 #[.int .u64 (a1 : Nat), .int .u64 (b1 : Nat), .int .u64 (k0 : Nat)] (.tuple #[.int .u64 (s1 : Nat), .int .u64 (k1 : Nat)]) ca1 rfl rfl) <|
    oc (k_mv (.inl rfl) rfl) <|
    oc (k_ex (.tuple #[.int .u64 (s1 : Nat), .int .u64 (k1 : Nat)]) (.int .u64 (s1 : Nat)) rfl rfl) <|
    oc (k_ex (.tuple #[.int .u64 (s1 : Nat), .int .u64 (k1 : Nat)]) (.int .u64 (k1 : Nat)) rfl rfl) <|
    oc (k_ia 3 0 1 (.int .i64 (1 : Nat)) (fun w q => by kernel_rfl) rfl rfl) <|
    oc (k_st 3 1 (.int .u64 (s1 : Nat)) (c := w4 s0 0 0 0) (n := w4 s0 s1 0 0) (st_w (i := 1) (v := s1) (n := w4 s0 s1 0 0) 87 rfl rfl) rfl rfl) <|
    oz (k_mv (.inr rfl) rfl) <|
    ok_nil
  clear h; intro β a w h
  refine sym_then ?_
  refine St.rg h [(30, .inl (.int .i64 (1 : Nat))), (31, .inl (.int .i64 (1 : Nat))), (32, .inr (3, pt 1)), (33, .inl (.int .u64 (s1 : Nat))), (34, .inl (.int .u64 (1503914060200516822 : Nat))), (35, .inl (.int .u64 (e0 : Nat))), (36, .inl (.tuple #[.int .u64 (r1 : Nat), .int .u64 (e1 : Nat)])), (29, .inl (.tuple #[.int .u64 (r1 : Nat), .int .u64 (e1 : Nat)])), (37, .inl (.int .u64 (r1 : Nat))), (38, .inl (.int .u64 (e1 : Nat))), (39, .inr (4, pt 1)), (8, .inl (.int .u64 (e1 : Nat)))] [] [(4, w4 r0 r1 0 0)] [nn, nn, nn, eR 3, nn, eO, nn, nn, nn, nn, nn, eS 4] ?_ ?_
  · exact oc (k_mv (.inl rfl) rfl) <|
    oc (k_mv (.inl rfl) rfl) <|
    oc (k_ia 3 0 1 (.int .i64 (1 : Nat)) (fun w q => by kernel_rfl) rfl rfl) <|
    oc (k_ld 3 1 (.int .u64 (s1 : Nat)) (c := w4 s0 s1 0 0) (ld_w (i := 1) (v := s1) 87 rfl) rfl rfl) <|
    oc (k_mv (.inl rfl) rfl) <|
    oc (k_m0 rfl rfl) <|
    oc (k_cx 90 #[.int .u64 (s1 : Nat), .int .u64 (1503914060200516822 : Nat), .int .u64 (e0 : Nat)] (.tuple #[.int .u64 (r1 : Nat), .int .u64 (e1 : Nat)]) cs1 rfl rfl) <|
    oc (k_mv (.inl rfl) rfl) <|
    oc (k_ex (.tuple #[.int .u64 (r1 : Nat), .int .u64 (e1 : Nat)]) (.int .u64 (r1 : Nat)) rfl rfl) <|
    oc (k_ex (.tuple #[.int .u64 (r1 : Nat), .int .u64 (e1 : Nat)]) (.int .u64 (e1 : Nat)) rfl rfl) <|
    oc (k_ia 4 0 1 (.int .i64 (1 : Nat)) (fun w q => by kernel_rfl) rfl rfl) <|
    oc (k_st 4 1 (.int .u64 (r1 : Nat)) (c := w4 r0 0 0 0) (n := w4 r0 r1 0 0) (st_w (i := 1) (v := r1) (n := w4 r0 r1 0 0) 87 rfl rfl) rfl rfl) <|
    oz (k_mv (.inr rfl) rfl) <|
    ok_nil
  clear h; intro β a w h
  refine blk_norm ?_
  refine sym_then ?_
  refine St.r0 h [(40, .inl (.int .i64 (2 : Nat))), (12, .inl (.int .i64 (2 : Nat)))] [eO] ?_ ?_
  · exact oc (k_b0 (.int .i64 (1 : Nat)) (.int .i64 (1 : Nat)) (.int .i64 (2 : Nat)) (ad_k (m := 1) (n := 1) rfl (by decide)) rfl rfl) <|
    oz (k_mv (.inl rfl) rfl) <|
    ok_nil
  clear h; intro β a w h
  refine then_norm ?_
  replace h := St.cs h (s' := [.inl (.agg (w4 a0 a1 a2 a3)), .inl (.agg (w4 b0 b1 b2 b3)), .inr (0, pt 0), .inr (1, pt 0), .inr (2, pt 0), .inr (3, pt 0), .inr (4, pt 0), .inl (.int .u64 (k1 : Nat)), .inl (.int .u64 (e1 : Nat)), .inl (.int .i64 (1 : Nat)), .inl (.int .u64 (1503914060200516822 : Nat)), .inl (.agg (w4 6346243789798364141 1503914060200516822 0 1152921504606846976)), .inl (.int .i64 (2 : Nat)), .inl (.bool true), .inl (.int .i64 (1 : Nat)), .inl (.int .u64 (1503914060200516822 : Nat)), .inl (.tuple #[.int .u64 (s1 : Nat), .int .u64 (k1 : Nat)]), .inl (.int .i64 (1 : Nat)), .inl (.int .i64 (1 : Nat)), .inr (0, pt 1), .inl (.int .u64 (a1 : Nat)), .inl (.int .i64 (1 : Nat)), .inr (1, pt 1), .inl (.int .u64 (b1 : Nat)), .inl (.int .u64 (k0 : Nat)), .inl (.tuple #[.int .u64 (s1 : Nat), .int .u64 (k1 : Nat)]), .inl (.int .u64 (s1 : Nat)), .inl (.int .u64 (k1 : Nat)), .inr (3, pt 1), .inl (.tuple #[.int .u64 (r1 : Nat), .int .u64 (e1 : Nat)]), .inl (.int .i64 (1 : Nat)), .inl (.int .i64 (1 : Nat)), .inr (3, pt 1), .inl (.int .u64 (s1 : Nat)), .inl (.int .u64 (1503914060200516822 : Nat)), .inl (.int .u64 (e0 : Nat)), .inl (.tuple #[.int .u64 (r1 : Nat), .int .u64 (e1 : Nat)]), .inl (.int .u64 (r1 : Nat)), .inl (.int .u64 (e1 : Nat)), .inr (4, pt 1), .inl (.int .i64 (2 : Nat)), uu, uu, uu, uu]) (m' := [(w4 a0 a1 a2 a3, 87), (w4 b0 b1 b2 b3, 87), (w4 0 0 0 0, 87), (w4 s0 s1 0 0, 87), (w4 r0 r1 0 0, 87)]) (by kernel_rfl) (by kernel_rfl)
  replace h := h.o0
  refine rounds_1 ?_
  refine sym_seq ?_
  refine St.r0 h [] [] ?_ ?_
  · exact oz (k_bi (.int .i64 (2 : Nat)) (.int .i64 (4 : Nat)) (.bool true) (lt_i (m := ((2 : Nat) : Int)) (n := ((4 : Nat) : Int)) (by decide)) rfl rfl) <|
    ok_nil
  clear h; intro β a w h
  refine sym_then ?_
  refine sym_seq ?_
  refine s_ct h ?_
  refine wp_skip ?_
  refine sym_then ?_
  refine sym_seq ?_
  refine blk_in ?_
  refine sym_seq ?_
  refine St.r0 h [(14, .inl (.int .i64 (2 : Nat))), (15, .inl (.int .u64 (0 : Nat))), (9, .inl (.int .i64 (2 : Nat))), (10, .inl (.int .u64 (0 : Nat)))] [] ?_ ?_
  · exact oz (k_mv (.inl rfl) rfl) <|
    oz (k_ix (.agg (w4 6346243789798364141 1503914060200516822 0 1152921504606846976)) (.int .i64 (2 : Nat)) (.int .u64 (0 : Nat)) (fun w => by kernel_rfl) rfl rfl) <|
    oz (k_mv (.inr rfl) rfl) <|
    oz (k_mv (.inr rfl) rfl) <|
    ok_nil
  clear h; intro β a w h
  refine sym_then ?_
  refine sym_seq ?_
  refine St.rg h [(17, .inl (.int .i64 (2 : Nat))), (18, .inl (.int .i64 (2 : Nat))), (19, .inr (0, pt 2)), (20, .inl (.int .u64 (a2 : Nat))), (21, .inl (.int .i64 (2 : Nat))), (22, .inr (1, pt 2)), (23, .inl (.int .u64 (b2 : Nat))), (24, .inl (.int .u64 (k1 : Nat))), (25, .inl (.tuple #[.int .u64 (s2 : Nat), .int .u64 (k2 : Nat)])), (16, .inl (.tuple #[.int .u64 (s2 : Nat), .int .u64 (k2 : Nat)])), (26, .inl (.int .u64 (s2 : Nat))), (27, .inl (.int .u64 (k2 : Nat))), (28, .inr (3, pt 2)), (7, .inl (.int .u64 (k2 : Nat)))] [] [(3, w4 s0 s1 s2 0)] [nn, nn, nn, eR 0, nn, nn, eR 1, eO, nn, nn, nn, nn, nn, eS 3] ?_ ?_
  · exact oc (k_mv (.inl rfl) rfl) <|
    oc (k_mv (.inl rfl) rfl) <|
    oc (k_ia 0 0 2 (.int .i64 (2 : Nat)) (fun w q => by kernel_rfl) rfl rfl) <|
    oc (k_ld 0 2 (.int .u64 (a2 : Nat)) (c := w4 a0 a1 a2 a3) (ld_w (i := 2) (v := a2) 87 rfl) rfl rfl) <|
    oc (k_mv (.inl rfl) rfl) <|
    oc (k_ia 1 0 2 (.int .i64 (2 : Nat)) (fun w q => by kernel_rfl) rfl rfl) <|
    oc (k_ld 1 2 (.int .u64 (b2 : Nat)) (c := w4 b0 b1 b2 b3) (ld_w (i := 2) (v := b2) 87 rfl) rfl rfl) <|
    oc (k_m0 rfl rfl) <|
    oc (k_cx 89 #[.int .u64 (a2 : Nat), .int .u64 (b2 : Nat), .int .u64 (k1 : Nat)] (.tuple #[.int .u64 (s2 : Nat), .int .u64 (k2 : Nat)]) ca2 rfl rfl) <|
    oc (k_mv (.inl rfl) rfl) <|
    oc (k_ex (.tuple #[.int .u64 (s2 : Nat), .int .u64 (k2 : Nat)]) (.int .u64 (s2 : Nat)) rfl rfl) <|
    oc (k_ex (.tuple #[.int .u64 (s2 : Nat), .int .u64 (k2 : Nat)]) (.int .u64 (k2 : Nat)) rfl rfl) <|
    oc (k_ia 3 0 2 (.int .i64 (2 : Nat)) (fun w q => by kernel_rfl) rfl rfl) <|
    oc (k_st 3 2 (.int .u64 (s2 : Nat)) (c := w4 s0 s1 0 0) (n := w4 s0 s1 s2 0) (st_w (i := 2) (v := s2) (n := w4 s0 s1 s2 0) 87 rfl rfl) rfl rfl) <|
    oz (k_mv (.inr rfl) rfl) <|
    ok_nil
  clear h; intro β a w h
  refine sym_then ?_
  refine St.rg h [(30, .inl (.int .i64 (2 : Nat))), (31, .inl (.int .i64 (2 : Nat))), (32, .inr (3, pt 2)), (33, .inl (.int .u64 (s2 : Nat))), (34, .inl (.int .u64 (0 : Nat))), (35, .inl (.int .u64 (e1 : Nat))), (36, .inl (.tuple #[.int .u64 (r2 : Nat), .int .u64 (e2 : Nat)])), (29, .inl (.tuple #[.int .u64 (r2 : Nat), .int .u64 (e2 : Nat)])), (37, .inl (.int .u64 (r2 : Nat))), (38, .inl (.int .u64 (e2 : Nat))), (39, .inr (4, pt 2)), (8, .inl (.int .u64 (e2 : Nat)))] [] [(4, w4 r0 r1 r2 0)] [nn, nn, nn, eR 3, nn, eO, nn, nn, nn, nn, nn, eS 4] ?_ ?_
  · exact oc (k_mv (.inl rfl) rfl) <|
    oc (k_mv (.inl rfl) rfl) <|
    oc (k_ia 3 0 2 (.int .i64 (2 : Nat)) (fun w q => by kernel_rfl) rfl rfl) <|
    oc (k_ld 3 2 (.int .u64 (s2 : Nat)) (c := w4 s0 s1 s2 0) (ld_w (i := 2) (v := s2) 87 rfl) rfl rfl) <|
    oc (k_mv (.inl rfl) rfl) <|
    oc (k_m0 rfl rfl) <|
    oc (k_cx 90 #[.int .u64 (s2 : Nat), .int .u64 (0 : Nat), .int .u64 (e1 : Nat)] (.tuple #[.int .u64 (r2 : Nat), .int .u64 (e2 : Nat)]) cs2 rfl rfl) <|
    oc (k_mv (.inl rfl) rfl) <|
    oc (k_ex (.tuple #[.int .u64 (r2 : Nat), .int .u64 (e2 : Nat)]) (.int .u64 (r2 : Nat)) rfl rfl) <|
    oc (k_ex (.tuple #[.int .u64 (r2 : Nat), .int .u64 (e2 : Nat)]) (.int .u64 (e2 : Nat)) rfl rfl) <|
    oc (k_ia 4 0 2 (.int .i64 (2 : Nat)) (fun w q => by kernel_rfl) rfl rfl) <|
    oc (k_st 4 2 (.int .u64 (r2 : Nat)) (c := w4 r0 r1 0 0) (n := w4 r0 r1 r2 0) (st_w (i := 2) (v := r2) (n := w4 r0 r1 r2 0) 87 rfl rfl) rfl rfl) <|
    oz (k_mv (.inr rfl) rfl) <|
    ok_nil
  clear h; intro β a w h
  refine blk_norm ?_
  refine sym_then ?_
  refine St.r0 h [(40, .inl (.int .i64 (3 : Nat))), (12, .inl (.int .i64 (3 : Nat)))] [eO] ?_ ?_
  · exact oc (k_b0 (.int .i64 (2 : Nat)) (.int .i64 (1 : Nat)) (.int .i64 (3 : Nat)) (ad_k (m := 2) (n := 1) rfl (by decide)) rfl rfl) <|
    oz (k_mv (.inl rfl) rfl) <|
    ok_nil
  clear h; intro β a w h
  refine then_norm ?_
  replace h := St.cs h (s' := [.inl (.agg (w4 a0 a1 a2 a3)), .inl (.agg (w4 b0 b1 b2 b3)), .inr (0, pt 0), .inr (1, pt 0), .inr (2, pt 0), .inr (3, pt 0), .inr (4, pt 0), .inl (.int .u64 (k2 : Nat)), .inl (.int .u64 (e2 : Nat)), .inl (.int .i64 (2 : Nat)), .inl (.int .u64 (0 : Nat)), .inl (.agg (w4 6346243789798364141 1503914060200516822 0 1152921504606846976)), .inl (.int .i64 (3 : Nat)), .inl (.bool true), .inl (.int .i64 (2 : Nat)), .inl (.int .u64 (0 : Nat)), .inl (.tuple #[.int .u64 (s2 : Nat), .int .u64 (k2 : Nat)]), .inl (.int .i64 (2 : Nat)), .inl (.int .i64 (2 : Nat)), .inr (0, pt 2), .inl (.int .u64 (a2 : Nat)), .inl (.int .i64 (2 : Nat)), .inr (1, pt 2), .inl (.int .u64 (b2 : Nat)), .inl (.int .u64 (k1 : Nat)), .inl (.tuple #[.int .u64 (s2 : Nat), .int .u64 (k2 : Nat)]), .inl (.int .u64 (s2 : Nat)), .inl (.int .u64 (k2 : Nat)), .inr (3, pt 2), .inl (.tuple #[.int .u64 (r2 : Nat), .int .u64 (e2 : Nat)]), .inl (.int .i64 (2 : Nat)), .inl (.int .i64 (2 : Nat)), .inr (3, pt 2), .inl (.int .u64 (s2 : Nat)), .inl (.int .u64 (0 : Nat)), .inl (.int .u64 (e1 : Nat)), .inl (.tuple #[.int .u64 (r2 : Nat), .int .u64 (e2 : Nat)]), .inl (.int .u64 (r2 : Nat)), .inl (.int .u64 (e2 : Nat)), .inr (4, pt 2), .inl (.int .i64 (3 : Nat)), uu, uu, uu, uu]) (m' := [(w4 a0 a1 a2 a3, 87), (w4 b0 b1 b2 b3, 87), (w4 0 0 0 0, 87), (w4 s0 s1 s2 0, 87), (w4 r0 r1 r2 0, 87)]) (by kernel_rfl) (by kernel_rfl)
  replace h := h.o0
  refine rounds_1 ?_
  refine sym_seq ?_
  refine St.r0 h [] [] ?_ ?_
  · exact oz (k_bi (.int .i64 (3 : Nat)) (.int .i64 (4 : Nat)) (.bool true) (lt_i (m := ((3 : Nat) : Int)) (n := ((4 : Nat) : Int)) (by decide)) rfl rfl) <|
    ok_nil
  clear h; intro β a w h
  refine sym_then ?_
  refine sym_seq ?_
  refine s_ct h ?_
  refine wp_skip ?_
  refine sym_then ?_
  refine sym_seq ?_
  refine blk_in ?_
  refine sym_seq ?_
  refine St.r0 h [(14, .inl (.int .i64 (3 : Nat))), (15, .inl (.int .u64 (1152921504606846976 : Nat))), (9, .inl (.int .i64 (3 : Nat))), (10, .inl (.int .u64 (1152921504606846976 : Nat)))] [] ?_ ?_
  · exact oz (k_mv (.inl rfl) rfl) <|
    oz (k_ix (.agg (w4 6346243789798364141 1503914060200516822 0 1152921504606846976)) (.int .i64 (3 : Nat)) (.int .u64 (1152921504606846976 : Nat)) (fun w => by kernel_rfl) rfl rfl) <|
    oz (k_mv (.inr rfl) rfl) <|
    oz (k_mv (.inr rfl) rfl) <|
    ok_nil
  clear h; intro β a w h
  refine sym_then ?_
  refine sym_seq ?_
  refine St.rg h [(17, .inl (.int .i64 (3 : Nat))), (18, .inl (.int .i64 (3 : Nat))), (19, .inr (0, pt 3)), (20, .inl (.int .u64 (a3 : Nat))), (21, .inl (.int .i64 (3 : Nat))), (22, .inr (1, pt 3)), (23, .inl (.int .u64 (b3 : Nat))), (24, .inl (.int .u64 (k2 : Nat))), (25, .inl (.tuple #[.int .u64 (s3 : Nat), .int .u64 (k3 : Nat)])), (16, .inl (.tuple #[.int .u64 (s3 : Nat), .int .u64 (k3 : Nat)])), (26, .inl (.int .u64 (s3 : Nat))), (27, .inl (.int .u64 (k3 : Nat))), (28, .inr (3, pt 3)), (7, .inl (.int .u64 (k3 : Nat)))] [] [(3, w4 s0 s1 s2 s3)] [nn, nn, nn, eR 0, nn, nn, eR 1, eO, nn, nn, nn, nn, nn, eS 3] ?_ ?_
  · exact oc (k_mv (.inl rfl) rfl) <|
    oc (k_mv (.inl rfl) rfl) <|
    oc (k_ia 0 0 3 (.int .i64 (3 : Nat)) (fun w q => by kernel_rfl) rfl rfl) <|
    oc (k_ld 0 3 (.int .u64 (a3 : Nat)) (c := w4 a0 a1 a2 a3) (ld_w (i := 3) (v := a3) 87 rfl) rfl rfl) <|
    oc (k_mv (.inl rfl) rfl) <|
    oc (k_ia 1 0 3 (.int .i64 (3 : Nat)) (fun w q => by kernel_rfl) rfl rfl) <|
    oc (k_ld 1 3 (.int .u64 (b3 : Nat)) (c := w4 b0 b1 b2 b3) (ld_w (i := 3) (v := b3) 87 rfl) rfl rfl) <|
    oc (k_m0 rfl rfl) <|
    oc (k_cx 89 #[.int .u64 (a3 : Nat), .int .u64 (b3 : Nat), .int .u64 (k2 : Nat)] (.tuple #[.int .u64 (s3 : Nat), .int .u64 (k3 : Nat)]) ca3 rfl rfl) <|
    oc (k_mv (.inl rfl) rfl) <|
    oc (k_ex (.tuple #[.int .u64 (s3 : Nat), .int .u64 (k3 : Nat)]) (.int .u64 (s3 : Nat)) rfl rfl) <|
    oc (k_ex (.tuple #[.int .u64 (s3 : Nat), .int .u64 (k3 : Nat)]) (.int .u64 (k3 : Nat)) rfl rfl) <|
    oc (k_ia 3 0 3 (.int .i64 (3 : Nat)) (fun w q => by kernel_rfl) rfl rfl) <|
    oc (k_st 3 3 (.int .u64 (s3 : Nat)) (c := w4 s0 s1 s2 0) (n := w4 s0 s1 s2 s3) (st_w (i := 3) (v := s3) (n := w4 s0 s1 s2 s3) 87 rfl rfl) rfl rfl) <|
    oz (k_mv (.inr rfl) rfl) <|
    ok_nil
  clear h; intro β a w h
  refine sym_then ?_
  refine St.rg h [(30, .inl (.int .i64 (3 : Nat))), (31, .inl (.int .i64 (3 : Nat))), (32, .inr (3, pt 3)), (33, .inl (.int .u64 (s3 : Nat))), (34, .inl (.int .u64 (1152921504606846976 : Nat))), (35, .inl (.int .u64 (e2 : Nat))), (36, .inl (.tuple #[.int .u64 (r3 : Nat), .int .u64 (e3 : Nat)])), (29, .inl (.tuple #[.int .u64 (r3 : Nat), .int .u64 (e3 : Nat)])), (37, .inl (.int .u64 (r3 : Nat))), (38, .inl (.int .u64 (e3 : Nat))), (39, .inr (4, pt 3)), (8, .inl (.int .u64 (e3 : Nat)))] [] [(4, w4 r0 r1 r2 r3)] [nn, nn, nn, eR 3, nn, eO, nn, nn, nn, nn, nn, eS 4] ?_ ?_
  · exact oc (k_mv (.inl rfl) rfl) <|
    oc (k_mv (.inl rfl) rfl) <|
    oc (k_ia 3 0 3 (.int .i64 (3 : Nat)) (fun w q => by kernel_rfl) rfl rfl) <|
    oc (k_ld 3 3 (.int .u64 (s3 : Nat)) (c := w4 s0 s1 s2 s3) (ld_w (i := 3) (v := s3) 87 rfl) rfl rfl) <|
    oc (k_mv (.inl rfl) rfl) <|
    oc (k_m0 rfl rfl) <|
    oc (k_cx 90 #[.int .u64 (s3 : Nat), .int .u64 (1152921504606846976 : Nat), .int .u64 (e2 : Nat)] (.tuple #[.int .u64 (r3 : Nat), .int .u64 (e3 : Nat)]) cs3 rfl rfl) <|
    oc (k_mv (.inl rfl) rfl) <|
    oc (k_ex (.tuple #[.int .u64 (r3 : Nat), .int .u64 (e3 : Nat)]) (.int .u64 (r3 : Nat)) rfl rfl) <|
    oc (k_ex (.tuple #[.int .u64 (r3 : Nat), .int .u64 (e3 : Nat)]) (.int .u64 (e3 : Nat)) rfl rfl) <|
    oc (k_ia 4 0 3 (.int .i64 (3 : Nat)) (fun w q => by kernel_rfl) rfl rfl) <|
    oc (k_st 4 3 (.int .u64 (r3 : Nat)) (c := w4 r0 r1 r2 0) (n := w4 r0 r1 r2 r3) (st_w (i := 3) (v := r3) (n := w4 r0 r1 r2 r3) 87 rfl rfl) rfl rfl) <|
    oz (k_mv (.inr rfl) rfl) <|
    ok_nil
  clear h; intro β a w h
  refine blk_norm ?_
  refine sym_then ?_
  refine St.r0 h [(40, .inl (.int .i64 (4 : Nat))), (12, .inl (.int .i64 (4 : Nat)))] [eO] ?_ ?_
  · exact oc (k_b0 (.int .i64 (3 : Nat)) (.int .i64 (1 : Nat)) (.int .i64 (4 : Nat)) (ad_k (m := 3) (n := 1) rfl (by decide)) rfl rfl) <|
    oz (k_mv (.inl rfl) rfl) <|
    ok_nil
  clear h; intro β a w h
  refine then_norm ?_
  replace h := St.cs h (s' := [.inl (.agg (w4 a0 a1 a2 a3)), .inl (.agg (w4 b0 b1 b2 b3)), .inr (0, pt 0), .inr (1, pt 0), .inr (2, pt 0), .inr (3, pt 0), .inr (4, pt 0), .inl (.int .u64 (k3 : Nat)), .inl (.int .u64 (e3 : Nat)), .inl (.int .i64 (3 : Nat)), .inl (.int .u64 (1152921504606846976 : Nat)), .inl (.agg (w4 6346243789798364141 1503914060200516822 0 1152921504606846976)), .inl (.int .i64 (4 : Nat)), .inl (.bool true), .inl (.int .i64 (3 : Nat)), .inl (.int .u64 (1152921504606846976 : Nat)), .inl (.tuple #[.int .u64 (s3 : Nat), .int .u64 (k3 : Nat)]), .inl (.int .i64 (3 : Nat)), .inl (.int .i64 (3 : Nat)), .inr (0, pt 3), .inl (.int .u64 (a3 : Nat)), .inl (.int .i64 (3 : Nat)), .inr (1, pt 3), .inl (.int .u64 (b3 : Nat)), .inl (.int .u64 (k2 : Nat)), .inl (.tuple #[.int .u64 (s3 : Nat), .int .u64 (k3 : Nat)]), .inl (.int .u64 (s3 : Nat)), .inl (.int .u64 (k3 : Nat)), .inr (3, pt 3), .inl (.tuple #[.int .u64 (r3 : Nat), .int .u64 (e3 : Nat)]), .inl (.int .i64 (3 : Nat)), .inl (.int .i64 (3 : Nat)), .inr (3, pt 3), .inl (.int .u64 (s3 : Nat)), .inl (.int .u64 (1152921504606846976 : Nat)), .inl (.int .u64 (e2 : Nat)), .inl (.tuple #[.int .u64 (r3 : Nat), .int .u64 (e3 : Nat)]), .inl (.int .u64 (r3 : Nat)), .inl (.int .u64 (e3 : Nat)), .inr (4, pt 3), .inl (.int .i64 (4 : Nat)), uu, uu, uu, uu]) (m' := [(w4 a0 a1 a2 a3, 87), (w4 b0 b1 b2 b3, 87), (w4 0 0 0 0, 87), (w4 s0 s1 s2 s3, 87), (w4 r0 r1 r2 r3, 87)]) (by kernel_rfl) (by kernel_rfl)
  replace h := h.o0
  refine rounds_1 ?_
  refine sym_seq ?_
  refine St.r0 h [(13, .inl (.bool false))] [] ?_ ?_
  · exact oz (k_bi (.int .i64 (4 : Nat)) (.int .i64 (4 : Nat)) (.bool false) (lt_i (m := ((4 : Nat) : Int)) (n := ((4 : Nat) : Int)) (by decide)) rfl rfl) <|
    ok_nil
  clear h; intro β a w h
  refine sym_then ?_
  refine sym_seq ?_
  refine s_cf h ?_
  refine wp_exit ?_
  refine then_exit ?_
  refine then_exit ?_
  refine blk_exit ?_
  refine sym_then ?_
  refine sym_seq ?_
  refine sym_seq ?_
  refine St.r0 h [(41, .inl (.int .u64 (e3 : Nat))), (42, .inl (.bool true))] [] ?_ ?_
  · exact oz (k_mv (.inl rfl) rfl) <|
    oz (k_bi (.int .u64 (e3 : Nat)) (.int .u64 (1 : Nat)) (.bool true) (eq_u64 (m := e3) (n := 1) (decide_eq_true hb)) rfl rfl) <|
    ok_nil
  clear h; intro β a w h
  refine sym_then ?_
  refine s_ct h ?_
  refine sym_seq ?_
  refine St.rg h [(43, .inl (.agg (w4 s0 s1 s2 s3)))] [] [(2, w4 s0 s1 s2 s3)] [eR 3, eS 2] ?_ ?_
  · exact oc (k_ld 3 0 (.agg (w4 s0 s1 s2 s3)) (c := w4 s0 s1 s2 s3) (ldW 87) rfl rfl) <|
    oc (k_st 2 0 (.agg (w4 s0 s1 s2 s3)) (c := w4 0 0 0 0) (n := w4 s0 s1 s2 s3) (stW 87 rfl) rfl rfl) <|
    ok_nil
  clear h; intro β a w h
  refine sym_then ?_
  refine wp_ret ?_
  refine then_ret ?_
  exact s_rc (b := 2) (t0 := 87) (c := w4 s0 s1 s2 s3) h Tryz.results55 Tryz.underlying87 (fun hb => ⟨rfl, hb⟩) (by kernel_rfl)

set_option maxHeartbeats 4000000 in
theorem pls_r {a0 a1 a2 a3 b0 b1 b2 b3 s0 s1 s2 s3 k0 k1 k2 k3 r0 r1 r2 r3 e0 e1 e2 e3 : Nat} (ca0 : (∀ w, (callFunc 89 #[.int .u64 (a0 : Nat), .int .u64 (b0 : Nat), .int .u64 (0 : Nat)]).run Tryz.prog w = .ok (.value (.tuple #[.int .u64 (s0 : Nat), .int .u64 (k0 : Nat)])) w)) (ca1 : (∀ w, (callFunc 89 #[.int .u64 (a1 : Nat), .int .u64 (b1 : Nat), .int .u64 (k0 : Nat)]).run Tryz.prog w = .ok (.value (.tuple #[.int .u64 (s1 : Nat), .int .u64 (k1 : Nat)])) w)) (ca2 : (∀ w, (callFunc 89 #[.int .u64 (a2 : Nat), .int .u64 (b2 : Nat), .int .u64 (k1 : Nat)]).run Tryz.prog w = .ok (.value (.tuple #[.int .u64 (s2 : Nat), .int .u64 (k2 : Nat)])) w)) (ca3 : (∀ w, (callFunc 89 #[.int .u64 (a3 : Nat), .int .u64 (b3 : Nat), .int .u64 (k2 : Nat)]).run Tryz.prog w = .ok (.value (.tuple #[.int .u64 (s3 : Nat), .int .u64 (k3 : Nat)])) w))
    (cs0 : (∀ w, (callFunc 90 #[.int .u64 (s0 : Nat), .int .u64 (6346243789798364141 : Nat), .int .u64 (0 : Nat)]).run Tryz.prog w = .ok (.value (.tuple #[.int .u64 (r0 : Nat), .int .u64 (e0 : Nat)])) w)) (cs1 : (∀ w, (callFunc 90 #[.int .u64 (s1 : Nat), .int .u64 (1503914060200516822 : Nat), .int .u64 (e0 : Nat)]).run Tryz.prog w = .ok (.value (.tuple #[.int .u64 (r1 : Nat), .int .u64 (e1 : Nat)])) w)) (cs2 : (∀ w, (callFunc 90 #[.int .u64 (s2 : Nat), .int .u64 (0 : Nat), .int .u64 (e1 : Nat)]).run Tryz.prog w = .ok (.value (.tuple #[.int .u64 (r2 : Nat), .int .u64 (e2 : Nat)])) w)) (cs3 : (∀ w, (callFunc 90 #[.int .u64 (s3 : Nat), .int .u64 (1152921504606846976 : Nat), .int .u64 (e2 : Nat)]).run Tryz.prog w = .ok (.value (.tuple #[.int .u64 (r3 : Nat), .int .u64 (e3 : Nat)])) w))
    (hb : ¬ e3 = 1) (W0 : World) : Calls Tryz.prog 55 #[.agg (w4 a0 a1 a2 a3), .agg (w4 b0 b1 b2 b3)] W0 fun e w' => e = .returned (.agg (w4 r0 r1 r2 r3)) ∧ Below W0.heap.size W0 w' := by
  refine s_in Tryz.func55 Tryz.ntmps55 rfl [.inl (.agg (w4 a0 a1 a2 a3)), .inl (.agg (w4 b0 b1 b2 b3))] ?_
  intro β a h
  refine sym_seq ?_
  refine St.rg h [(2, .inr (0, pt 0)), (3, .inr (1, pt 0)), (4, .inr (2, pt 0))] [(w4 a0 a1 a2 a3, 87), (w4 b0 b1 b2 b3, 87), (w4 0 0 0 0, 87)] [] [eN 0, eN 1, eN 2] ?_ ?_
  · exact oc (k_bx 0 (.agg (w4 a0 a1 a2 a3)) bxW rfl rfl) <|
    oc (k_bx 1 (.agg (w4 b0 b1 b2 b3)) bxW rfl rfl) <|
    oc (k_al 2 alW rfl rfl) <|
    ok_nil
  clear h; intro β a w h
  refine sym_then ?_
  refine sym_seq ?_
  refine St.rg h [(5, .inr (3, pt 0)), (6, .inr (4, pt 0))] [(w4 0 0 0 0, 87), (w4 0 0 0 0, 87)] [] [eN 3, eN 4] ?_ ?_
  · exact oc (k_al 3 alW rfl rfl) <|
    oc (k_al 4 alW rfl rfl) <|
    ok_nil
  clear h; intro β a w h
  refine sym_then ?_
  refine sym_seq ?_
  refine St.r0 h [(7, .inl (.int .u64 (0 : Nat))), (8, .inl (.int .u64 (0 : Nat)))] [] ?_ ?_
  · exact oz (k_mv (.inr rfl) rfl) <|
    oz (k_mv (.inr rfl) rfl) <|
    ok_nil
  clear h; intro β a w h
  refine sym_then ?_
  refine sym_seq ?_
  refine sym_seq ?_
  refine St.r0 h [(11, .inl (.agg (w4 6346243789798364141 1503914060200516822 0 1152921504606846976))), (12, .inl (.int .i64 (0 : Nat)))] [] ?_ ?_
  · exact oz (k_ca 88 #[] (.agg (w4 6346243789798364141 1503914060200516822 0 1152921504606846976)) order_r rfl rfl) <|
    oz (k_mv (.inl rfl) rfl) <|
    ok_nil
  clear h; intro β a w h
  refine sym_then ?_
  refine blk_in ?_
  refine wp_loop_rounds 5 ?_
  refine rounds_1 ?_
  refine sym_seq ?_
  refine St.r0 h [(13, .inl (.bool true))] [] ?_ ?_
  · exact oz (k_bi (.int .i64 (0 : Nat)) (.int .i64 (4 : Nat)) (.bool true) (lt_i (m := ((0 : Nat) : Int)) (n := ((4 : Nat) : Int)) (by decide)) rfl rfl) <|
    ok_nil
  clear h; intro β a w h
  refine sym_then ?_
  refine sym_seq ?_
  refine s_ct h ?_
  refine wp_skip ?_
  refine sym_then ?_
  refine sym_seq ?_
  refine blk_in ?_
  refine sym_seq ?_
  refine St.r0 h [(14, .inl (.int .i64 (0 : Nat))), (15, .inl (.int .u64 (6346243789798364141 : Nat))), (9, .inl (.int .i64 (0 : Nat))), (10, .inl (.int .u64 (6346243789798364141 : Nat)))] [] ?_ ?_
  · exact oz (k_mv (.inl rfl) rfl) <|
    oz (k_ix (.agg (w4 6346243789798364141 1503914060200516822 0 1152921504606846976)) (.int .i64 (0 : Nat)) (.int .u64 (6346243789798364141 : Nat)) (fun w => by kernel_rfl) rfl rfl) <|
    oz (k_mv (.inr rfl) rfl) <|
    oz (k_mv (.inr rfl) rfl) <|
    ok_nil
  clear h; intro β a w h
  refine sym_then ?_
  refine sym_seq ?_
  refine St.rg h [(17, .inl (.int .i64 (0 : Nat))), (18, .inl (.int .i64 (0 : Nat))), (19, .inr (0, pt 0)), (20, .inl (.int .u64 (a0 : Nat))), (21, .inl (.int .i64 (0 : Nat))), (22, .inr (1, pt 0)), (23, .inl (.int .u64 (b0 : Nat))), (24, .inl (.int .u64 (0 : Nat))), (25, .inl (.tuple #[.int .u64 (s0 : Nat), .int .u64 (k0 : Nat)])), (16, .inl (.tuple #[.int .u64 (s0 : Nat), .int .u64 (k0 : Nat)])), (26, .inl (.int .u64 (s0 : Nat))), (27, .inl (.int .u64 (k0 : Nat))), (28, .inr (3, pt 0)), (7, .inl (.int .u64 (k0 : Nat)))] [] [(3, w4 s0 0 0 0)] [nn, nn, nn, eR 0, nn, nn, eR 1, eO, nn, nn, nn, nn, nn, eS 3] ?_ ?_
  · exact oc (k_mv (.inl rfl) rfl) <|
    oc (k_mv (.inl rfl) rfl) <|
    oc (k_ia 0 0 0 (.int .i64 (0 : Nat)) (fun w q => by kernel_rfl) rfl rfl) <|
    oc (k_ld 0 0 (.int .u64 (a0 : Nat)) (c := w4 a0 a1 a2 a3) (ld_w (i := 0) (v := a0) 87 rfl) rfl rfl) <|
    oc (k_mv (.inl rfl) rfl) <|
    oc (k_ia 1 0 0 (.int .i64 (0 : Nat)) (fun w q => by kernel_rfl) rfl rfl) <|
    oc (k_ld 1 0 (.int .u64 (b0 : Nat)) (c := w4 b0 b1 b2 b3) (ld_w (i := 0) (v := b0) 87 rfl) rfl rfl) <|
    oc (k_m0 rfl rfl) <|
    oc (k_cx 89 #[.int .u64 (a0 : Nat), .int .u64 (b0 : Nat), .int .u64 (0 : Nat)] (.tuple #[.int .u64 (s0 : Nat), .int .u64 (k0 : Nat)]) ca0 rfl rfl) <|
    oc (k_mv (.inl rfl) rfl) <|
    oc (k_ex (.tuple #[.int .u64 (s0 : Nat), .int .u64 (k0 : Nat)]) (.int .u64 (s0 : Nat)) rfl rfl) <|
    oc (k_ex (.tuple #[.int .u64 (s0 : Nat), .int .u64 (k0 : Nat)]) (.int .u64 (k0 : Nat)) rfl rfl) <|
    oc (k_ia 3 0 0 (.int .i64 (0 : Nat)) (fun w q => by kernel_rfl) rfl rfl) <|
    oc (k_st 3 0 (.int .u64 (s0 : Nat)) (c := w4 0 0 0 0) (n := w4 s0 0 0 0) (st_w (i := 0) (v := s0) (n := w4 s0 0 0 0) 87 rfl rfl) rfl rfl) <|
    oz (k_mv (.inr rfl) rfl) <|
    ok_nil
  clear h; intro β a w h
  refine sym_then ?_
  refine St.rg h [(30, .inl (.int .i64 (0 : Nat))), (31, .inl (.int .i64 (0 : Nat))), (32, .inr (3, pt 0)), (33, .inl (.int .u64 (s0 : Nat))), (34, .inl (.int .u64 (6346243789798364141 : Nat))), (35, .inl (.int .u64 (0 : Nat))), (36, .inl (.tuple #[.int .u64 (r0 : Nat), .int .u64 (e0 : Nat)])), (29, .inl (.tuple #[.int .u64 (r0 : Nat), .int .u64 (e0 : Nat)])), (37, .inl (.int .u64 (r0 : Nat))), (38, .inl (.int .u64 (e0 : Nat))), (39, .inr (4, pt 0)), (8, .inl (.int .u64 (e0 : Nat)))] [] [(4, w4 r0 0 0 0)] [nn, nn, nn, eR 3, nn, eO, nn, nn, nn, nn, nn, eS 4] ?_ ?_
  · exact oc (k_mv (.inl rfl) rfl) <|
    oc (k_mv (.inl rfl) rfl) <|
    oc (k_ia 3 0 0 (.int .i64 (0 : Nat)) (fun w q => by kernel_rfl) rfl rfl) <|
    oc (k_ld 3 0 (.int .u64 (s0 : Nat)) (c := w4 s0 0 0 0) (ld_w (i := 0) (v := s0) 87 rfl) rfl rfl) <|
    oc (k_mv (.inl rfl) rfl) <|
    oc (k_m0 rfl rfl) <|
    oc (k_cx 90 #[.int .u64 (s0 : Nat), .int .u64 (6346243789798364141 : Nat), .int .u64 (0 : Nat)] (.tuple #[.int .u64 (r0 : Nat), .int .u64 (e0 : Nat)]) cs0 rfl rfl) <|
    oc (k_mv (.inl rfl) rfl) <|
    oc (k_ex (.tuple #[.int .u64 (r0 : Nat), .int .u64 (e0 : Nat)]) (.int .u64 (r0 : Nat)) rfl rfl) <|
    oc (k_ex (.tuple #[.int .u64 (r0 : Nat), .int .u64 (e0 : Nat)]) (.int .u64 (e0 : Nat)) rfl rfl) <|
    oc (k_ia 4 0 0 (.int .i64 (0 : Nat)) (fun w q => by kernel_rfl) rfl rfl) <|
    oc (k_st 4 0 (.int .u64 (r0 : Nat)) (c := w4 0 0 0 0) (n := w4 r0 0 0 0) (st_w (i := 0) (v := r0) (n := w4 r0 0 0 0) 87 rfl rfl) rfl rfl) <|
    oz (k_mv (.inr rfl) rfl) <|
    ok_nil
  clear h; intro β a w h
  refine blk_norm ?_
  refine sym_then ?_
  refine St.r0 h [(40, .inl (.int .i64 (1 : Nat))), (12, .inl (.int .i64 (1 : Nat)))] [eO] ?_ ?_
  · exact oc (k_b0 (.int .i64 (0 : Nat)) (.int .i64 (1 : Nat)) (.int .i64 (1 : Nat)) (ad_k (m := 0) (n := 1) rfl (by decide)) rfl rfl) <|
    oz (k_mv (.inl rfl) rfl) <|
    ok_nil
  clear h; intro β a w h
  refine then_norm ?_
  replace h := St.cs h (s' := [.inl (.agg (w4 a0 a1 a2 a3)), .inl (.agg (w4 b0 b1 b2 b3)), .inr (0, pt 0), .inr (1, pt 0), .inr (2, pt 0), .inr (3, pt 0), .inr (4, pt 0), .inl (.int .u64 (k0 : Nat)), .inl (.int .u64 (e0 : Nat)), .inl (.int .i64 (0 : Nat)), .inl (.int .u64 (6346243789798364141 : Nat)), .inl (.agg (w4 6346243789798364141 1503914060200516822 0 1152921504606846976)), .inl (.int .i64 (1 : Nat)), .inl (.bool true), .inl (.int .i64 (0 : Nat)), .inl (.int .u64 (6346243789798364141 : Nat)), .inl (.tuple #[.int .u64 (s0 : Nat), .int .u64 (k0 : Nat)]), .inl (.int .i64 (0 : Nat)), .inl (.int .i64 (0 : Nat)), .inr (0, pt 0), .inl (.int .u64 (a0 : Nat)), .inl (.int .i64 (0 : Nat)), .inr (1, pt 0), .inl (.int .u64 (b0 : Nat)), .inl (.int .u64 (0 : Nat)), .inl (.tuple #[.int .u64 (s0 : Nat), .int .u64 (k0 : Nat)]), .inl (.int .u64 (s0 : Nat)), .inl (.int .u64 (k0 : Nat)), .inr (3, pt 0), .inl (.tuple #[.int .u64 (r0 : Nat), .int .u64 (e0 : Nat)]), .inl (.int .i64 (0 : Nat)), .inl (.int .i64 (0 : Nat)), .inr (3, pt 0), .inl (.int .u64 (s0 : Nat)), .inl (.int .u64 (6346243789798364141 : Nat)), .inl (.int .u64 (0 : Nat)), .inl (.tuple #[.int .u64 (r0 : Nat), .int .u64 (e0 : Nat)]), .inl (.int .u64 (r0 : Nat)), .inl (.int .u64 (e0 : Nat)), .inr (4, pt 0), .inl (.int .i64 (1 : Nat)), uu, uu, uu, uu]) (m' := [(w4 a0 a1 a2 a3, 87), (w4 b0 b1 b2 b3, 87), (w4 0 0 0 0, 87), (w4 s0 0 0 0, 87), (w4 r0 0 0 0, 87)]) (by kernel_rfl) (by kernel_rfl)
  replace h := h.o0
  refine rounds_1 ?_
  refine sym_seq ?_
  refine St.r0 h [] [] ?_ ?_
  · exact oz (k_bi (.int .i64 (1 : Nat)) (.int .i64 (4 : Nat)) (.bool true) (lt_i (m := ((1 : Nat) : Int)) (n := ((4 : Nat) : Int)) (by decide)) rfl rfl) <|
    ok_nil
  clear h; intro β a w h
  refine sym_then ?_
  refine sym_seq ?_
  refine s_ct h ?_
  refine wp_skip ?_
  refine sym_then ?_
  refine sym_seq ?_
  refine blk_in ?_
  refine sym_seq ?_
  refine St.r0 h [(14, .inl (.int .i64 (1 : Nat))), (15, .inl (.int .u64 (1503914060200516822 : Nat))), (9, .inl (.int .i64 (1 : Nat))), (10, .inl (.int .u64 (1503914060200516822 : Nat)))] [] ?_ ?_
  · exact oz (k_mv (.inl rfl) rfl) <|
    oz (k_ix (.agg (w4 6346243789798364141 1503914060200516822 0 1152921504606846976)) (.int .i64 (1 : Nat)) (.int .u64 (1503914060200516822 : Nat)) (fun w => by kernel_rfl) rfl rfl) <|
    oz (k_mv (.inr rfl) rfl) <|
    oz (k_mv (.inr rfl) rfl) <|
    ok_nil
  clear h; intro β a w h
  refine sym_then ?_
  refine sym_seq ?_
  refine St.rg h [(17, .inl (.int .i64 (1 : Nat))), (18, .inl (.int .i64 (1 : Nat))), (19, .inr (0, pt 1)), (20, .inl (.int .u64 (a1 : Nat))), (21, .inl (.int .i64 (1 : Nat))), (22, .inr (1, pt 1)), (23, .inl (.int .u64 (b1 : Nat))), (24, .inl (.int .u64 (k0 : Nat))), (25, .inl (.tuple #[.int .u64 (s1 : Nat), .int .u64 (k1 : Nat)])), (16, .inl (.tuple #[.int .u64 (s1 : Nat), .int .u64 (k1 : Nat)])), (26, .inl (.int .u64 (s1 : Nat))), (27, .inl (.int .u64 (k1 : Nat))), (28, .inr (3, pt 1)), (7, .inl (.int .u64 (k1 : Nat)))] [] [(3, w4 s0 s1 0 0)] [nn, nn, nn, eR 0, nn, nn, eR 1, eO, nn, nn, nn, nn, nn, eS 3] ?_ ?_
  · exact oc (k_mv (.inl rfl) rfl) <|
    oc (k_mv (.inl rfl) rfl) <|
    oc (k_ia 0 0 1 (.int .i64 (1 : Nat)) (fun w q => by kernel_rfl) rfl rfl) <|
    oc (k_ld 0 1 (.int .u64 (a1 : Nat)) (c := w4 a0 a1 a2 a3) (ld_w (i := 1) (v := a1) 87 rfl) rfl rfl) <|
    oc (k_mv (.inl rfl) rfl) <|
    oc (k_ia 1 0 1 (.int .i64 (1 : Nat)) (fun w q => by kernel_rfl) rfl rfl) <|
    oc (k_ld 1 1 (.int .u64 (b1 : Nat)) (c := w4 b0 b1 b2 b3) (ld_w (i := 1) (v := b1) 87 rfl) rfl rfl) <|
    oc (k_m0 rfl rfl) <|
    oc (k_cx 89 #[.int .u64 (a1 : Nat), .int .u64 (b1 : Nat), .int .u64 (k0 : Nat)] (.tuple #[.int .u64 (s1 : Nat), .int .u64 (k1 : Nat)]) ca1 rfl rfl) <|
    oc (k_mv (.inl rfl) rfl) <|
    oc (k_ex (.tuple #[.int .u64 (s1 : Nat), .int .u64 (k1 : Nat)]) (.int .u64 (s1 : Nat)) rfl rfl) <|
    oc (k_ex (.tuple #[.int .u64 (s1 : Nat), .int .u64 (k1 : Nat)]) (.int .u64 (k1 : Nat)) rfl rfl) <|
    oc (k_ia 3 0 1 (.int .i64 (1 : Nat)) (fun w q => by kernel_rfl) rfl rfl) <|
    oc (k_st 3 1 (.int .u64 (s1 : Nat)) (c := w4 s0 0 0 0) (n := w4 s0 s1 0 0) (st_w (i := 1) (v := s1) (n := w4 s0 s1 0 0) 87 rfl rfl) rfl rfl) <|
    oz (k_mv (.inr rfl) rfl) <|
    ok_nil
  clear h; intro β a w h
  refine sym_then ?_
  refine St.rg h [(30, .inl (.int .i64 (1 : Nat))), (31, .inl (.int .i64 (1 : Nat))), (32, .inr (3, pt 1)), (33, .inl (.int .u64 (s1 : Nat))), (34, .inl (.int .u64 (1503914060200516822 : Nat))), (35, .inl (.int .u64 (e0 : Nat))), (36, .inl (.tuple #[.int .u64 (r1 : Nat), .int .u64 (e1 : Nat)])), (29, .inl (.tuple #[.int .u64 (r1 : Nat), .int .u64 (e1 : Nat)])), (37, .inl (.int .u64 (r1 : Nat))), (38, .inl (.int .u64 (e1 : Nat))), (39, .inr (4, pt 1)), (8, .inl (.int .u64 (e1 : Nat)))] [] [(4, w4 r0 r1 0 0)] [nn, nn, nn, eR 3, nn, eO, nn, nn, nn, nn, nn, eS 4] ?_ ?_
  · exact oc (k_mv (.inl rfl) rfl) <|
    oc (k_mv (.inl rfl) rfl) <|
    oc (k_ia 3 0 1 (.int .i64 (1 : Nat)) (fun w q => by kernel_rfl) rfl rfl) <|
    oc (k_ld 3 1 (.int .u64 (s1 : Nat)) (c := w4 s0 s1 0 0) (ld_w (i := 1) (v := s1) 87 rfl) rfl rfl) <|
    oc (k_mv (.inl rfl) rfl) <|
    oc (k_m0 rfl rfl) <|
    oc (k_cx 90 #[.int .u64 (s1 : Nat), .int .u64 (1503914060200516822 : Nat), .int .u64 (e0 : Nat)] (.tuple #[.int .u64 (r1 : Nat), .int .u64 (e1 : Nat)]) cs1 rfl rfl) <|
    oc (k_mv (.inl rfl) rfl) <|
    oc (k_ex (.tuple #[.int .u64 (r1 : Nat), .int .u64 (e1 : Nat)]) (.int .u64 (r1 : Nat)) rfl rfl) <|
    oc (k_ex (.tuple #[.int .u64 (r1 : Nat), .int .u64 (e1 : Nat)]) (.int .u64 (e1 : Nat)) rfl rfl) <|
    oc (k_ia 4 0 1 (.int .i64 (1 : Nat)) (fun w q => by kernel_rfl) rfl rfl) <|
    oc (k_st 4 1 (.int .u64 (r1 : Nat)) (c := w4 r0 0 0 0) (n := w4 r0 r1 0 0) (st_w (i := 1) (v := r1) (n := w4 r0 r1 0 0) 87 rfl rfl) rfl rfl) <|
    oz (k_mv (.inr rfl) rfl) <|
    ok_nil
  clear h; intro β a w h
  refine blk_norm ?_
  refine sym_then ?_
  refine St.r0 h [(40, .inl (.int .i64 (2 : Nat))), (12, .inl (.int .i64 (2 : Nat)))] [eO] ?_ ?_
  · exact oc (k_b0 (.int .i64 (1 : Nat)) (.int .i64 (1 : Nat)) (.int .i64 (2 : Nat)) (ad_k (m := 1) (n := 1) rfl (by decide)) rfl rfl) <|
    oz (k_mv (.inl rfl) rfl) <|
    ok_nil
  clear h; intro β a w h
  refine then_norm ?_
  replace h := St.cs h (s' := [.inl (.agg (w4 a0 a1 a2 a3)), .inl (.agg (w4 b0 b1 b2 b3)), .inr (0, pt 0), .inr (1, pt 0), .inr (2, pt 0), .inr (3, pt 0), .inr (4, pt 0), .inl (.int .u64 (k1 : Nat)), .inl (.int .u64 (e1 : Nat)), .inl (.int .i64 (1 : Nat)), .inl (.int .u64 (1503914060200516822 : Nat)), .inl (.agg (w4 6346243789798364141 1503914060200516822 0 1152921504606846976)), .inl (.int .i64 (2 : Nat)), .inl (.bool true), .inl (.int .i64 (1 : Nat)), .inl (.int .u64 (1503914060200516822 : Nat)), .inl (.tuple #[.int .u64 (s1 : Nat), .int .u64 (k1 : Nat)]), .inl (.int .i64 (1 : Nat)), .inl (.int .i64 (1 : Nat)), .inr (0, pt 1), .inl (.int .u64 (a1 : Nat)), .inl (.int .i64 (1 : Nat)), .inr (1, pt 1), .inl (.int .u64 (b1 : Nat)), .inl (.int .u64 (k0 : Nat)), .inl (.tuple #[.int .u64 (s1 : Nat), .int .u64 (k1 : Nat)]), .inl (.int .u64 (s1 : Nat)), .inl (.int .u64 (k1 : Nat)), .inr (3, pt 1), .inl (.tuple #[.int .u64 (r1 : Nat), .int .u64 (e1 : Nat)]), .inl (.int .i64 (1 : Nat)), .inl (.int .i64 (1 : Nat)), .inr (3, pt 1), .inl (.int .u64 (s1 : Nat)), .inl (.int .u64 (1503914060200516822 : Nat)), .inl (.int .u64 (e0 : Nat)), .inl (.tuple #[.int .u64 (r1 : Nat), .int .u64 (e1 : Nat)]), .inl (.int .u64 (r1 : Nat)), .inl (.int .u64 (e1 : Nat)), .inr (4, pt 1), .inl (.int .i64 (2 : Nat)), uu, uu, uu, uu]) (m' := [(w4 a0 a1 a2 a3, 87), (w4 b0 b1 b2 b3, 87), (w4 0 0 0 0, 87), (w4 s0 s1 0 0, 87), (w4 r0 r1 0 0, 87)]) (by kernel_rfl) (by kernel_rfl)
  replace h := h.o0
  refine rounds_1 ?_
  refine sym_seq ?_
  refine St.r0 h [] [] ?_ ?_
  · exact oz (k_bi (.int .i64 (2 : Nat)) (.int .i64 (4 : Nat)) (.bool true) (lt_i (m := ((2 : Nat) : Int)) (n := ((4 : Nat) : Int)) (by decide)) rfl rfl) <|
    ok_nil
  clear h; intro β a w h
  refine sym_then ?_
  refine sym_seq ?_
  refine s_ct h ?_
  refine wp_skip ?_
  refine sym_then ?_
  refine sym_seq ?_
  refine blk_in ?_
  refine sym_seq ?_
  refine St.r0 h [(14, .inl (.int .i64 (2 : Nat))), (15, .inl (.int .u64 (0 : Nat))), (9, .inl (.int .i64 (2 : Nat))), (10, .inl (.int .u64 (0 : Nat)))] [] ?_ ?_
  · exact oz (k_mv (.inl rfl) rfl) <|
    oz (k_ix (.agg (w4 6346243789798364141 1503914060200516822 0 1152921504606846976)) (.int .i64 (2 : Nat)) (.int .u64 (0 : Nat)) (fun w => by kernel_rfl) rfl rfl) <|
    oz (k_mv (.inr rfl) rfl) <|
    oz (k_mv (.inr rfl) rfl) <|
    ok_nil
  clear h; intro β a w h
  refine sym_then ?_
  refine sym_seq ?_
  refine St.rg h [(17, .inl (.int .i64 (2 : Nat))), (18, .inl (.int .i64 (2 : Nat))), (19, .inr (0, pt 2)), (20, .inl (.int .u64 (a2 : Nat))), (21, .inl (.int .i64 (2 : Nat))), (22, .inr (1, pt 2)), (23, .inl (.int .u64 (b2 : Nat))), (24, .inl (.int .u64 (k1 : Nat))), (25, .inl (.tuple #[.int .u64 (s2 : Nat), .int .u64 (k2 : Nat)])), (16, .inl (.tuple #[.int .u64 (s2 : Nat), .int .u64 (k2 : Nat)])), (26, .inl (.int .u64 (s2 : Nat))), (27, .inl (.int .u64 (k2 : Nat))), (28, .inr (3, pt 2)), (7, .inl (.int .u64 (k2 : Nat)))] [] [(3, w4 s0 s1 s2 0)] [nn, nn, nn, eR 0, nn, nn, eR 1, eO, nn, nn, nn, nn, nn, eS 3] ?_ ?_
  · exact oc (k_mv (.inl rfl) rfl) <|
    oc (k_mv (.inl rfl) rfl) <|
    oc (k_ia 0 0 2 (.int .i64 (2 : Nat)) (fun w q => by kernel_rfl) rfl rfl) <|
    oc (k_ld 0 2 (.int .u64 (a2 : Nat)) (c := w4 a0 a1 a2 a3) (ld_w (i := 2) (v := a2) 87 rfl) rfl rfl) <|
    oc (k_mv (.inl rfl) rfl) <|
    oc (k_ia 1 0 2 (.int .i64 (2 : Nat)) (fun w q => by kernel_rfl) rfl rfl) <|
    oc (k_ld 1 2 (.int .u64 (b2 : Nat)) (c := w4 b0 b1 b2 b3) (ld_w (i := 2) (v := b2) 87 rfl) rfl rfl) <|
    oc (k_m0 rfl rfl) <|
    oc (k_cx 89 #[.int .u64 (a2 : Nat), .int .u64 (b2 : Nat), .int .u64 (k1 : Nat)] (.tuple #[.int .u64 (s2 : Nat), .int .u64 (k2 : Nat)]) ca2 rfl rfl) <|
    oc (k_mv (.inl rfl) rfl) <|
    oc (k_ex (.tuple #[.int .u64 (s2 : Nat), .int .u64 (k2 : Nat)]) (.int .u64 (s2 : Nat)) rfl rfl) <|
    oc (k_ex (.tuple #[.int .u64 (s2 : Nat), .int .u64 (k2 : Nat)]) (.int .u64 (k2 : Nat)) rfl rfl) <|
    oc (k_ia 3 0 2 (.int .i64 (2 : Nat)) (fun w q => by kernel_rfl) rfl rfl) <|
    oc (k_st 3 2 (.int .u64 (s2 : Nat)) (c := w4 s0 s1 0 0) (n := w4 s0 s1 s2 0) (st_w (i := 2) (v := s2) (n := w4 s0 s1 s2 0) 87 rfl rfl) rfl rfl) <|
    oz (k_mv (.inr rfl) rfl) <|
    ok_nil
  clear h; intro β a w h
  refine sym_then ?_
  refine St.rg h [(30, .inl (.int .i64 (2 : Nat))), (31, .inl (.int .i64 (2 : Nat))), (32, .inr (3, pt 2)), (33, .inl (.int .u64 (s2 : Nat))), (34, .inl (.int .u64 (0 : Nat))), (35, .inl (.int .u64 (e1 : Nat))), (36, .inl (.tuple #[.int .u64 (r2 : Nat), .int .u64 (e2 : Nat)])), (29, .inl (.tuple #[.int .u64 (r2 : Nat), .int .u64 (e2 : Nat)])), (37, .inl (.int .u64 (r2 : Nat))), (38, .inl (.int .u64 (e2 : Nat))), (39, .inr (4, pt 2)), (8, .inl (.int .u64 (e2 : Nat)))] [] [(4, w4 r0 r1 r2 0)] [nn, nn, nn, eR 3, nn, eO, nn, nn, nn, nn, nn, eS 4] ?_ ?_
  · exact oc (k_mv (.inl rfl) rfl) <|
    oc (k_mv (.inl rfl) rfl) <|
    oc (k_ia 3 0 2 (.int .i64 (2 : Nat)) (fun w q => by kernel_rfl) rfl rfl) <|
    oc (k_ld 3 2 (.int .u64 (s2 : Nat)) (c := w4 s0 s1 s2 0) (ld_w (i := 2) (v := s2) 87 rfl) rfl rfl) <|
    oc (k_mv (.inl rfl) rfl) <|
    oc (k_m0 rfl rfl) <|
    oc (k_cx 90 #[.int .u64 (s2 : Nat), .int .u64 (0 : Nat), .int .u64 (e1 : Nat)] (.tuple #[.int .u64 (r2 : Nat), .int .u64 (e2 : Nat)]) cs2 rfl rfl) <|
    oc (k_mv (.inl rfl) rfl) <|
    oc (k_ex (.tuple #[.int .u64 (r2 : Nat), .int .u64 (e2 : Nat)]) (.int .u64 (r2 : Nat)) rfl rfl) <|
    oc (k_ex (.tuple #[.int .u64 (r2 : Nat), .int .u64 (e2 : Nat)]) (.int .u64 (e2 : Nat)) rfl rfl) <|
    oc (k_ia 4 0 2 (.int .i64 (2 : Nat)) (fun w q => by kernel_rfl) rfl rfl) <|
    oc (k_st 4 2 (.int .u64 (r2 : Nat)) (c := w4 r0 r1 0 0) (n := w4 r0 r1 r2 0) (st_w (i := 2) (v := r2) (n := w4 r0 r1 r2 0) 87 rfl rfl) rfl rfl) <|
    oz (k_mv (.inr rfl) rfl) <|
    ok_nil
  clear h; intro β a w h
  refine blk_norm ?_
  refine sym_then ?_
  refine St.r0 h [(40, .inl (.int .i64 (3 : Nat))), (12, .inl (.int .i64 (3 : Nat)))] [eO] ?_ ?_
  · exact oc (k_b0 (.int .i64 (2 : Nat)) (.int .i64 (1 : Nat)) (.int .i64 (3 : Nat)) (ad_k (m := 2) (n := 1) rfl (by decide)) rfl rfl) <|
    oz (k_mv (.inl rfl) rfl) <|
    ok_nil
  clear h; intro β a w h
  refine then_norm ?_
  replace h := St.cs h (s' := [.inl (.agg (w4 a0 a1 a2 a3)), .inl (.agg (w4 b0 b1 b2 b3)), .inr (0, pt 0), .inr (1, pt 0), .inr (2, pt 0), .inr (3, pt 0), .inr (4, pt 0), .inl (.int .u64 (k2 : Nat)), .inl (.int .u64 (e2 : Nat)), .inl (.int .i64 (2 : Nat)), .inl (.int .u64 (0 : Nat)), .inl (.agg (w4 6346243789798364141 1503914060200516822 0 1152921504606846976)), .inl (.int .i64 (3 : Nat)), .inl (.bool true), .inl (.int .i64 (2 : Nat)), .inl (.int .u64 (0 : Nat)), .inl (.tuple #[.int .u64 (s2 : Nat), .int .u64 (k2 : Nat)]), .inl (.int .i64 (2 : Nat)), .inl (.int .i64 (2 : Nat)), .inr (0, pt 2), .inl (.int .u64 (a2 : Nat)), .inl (.int .i64 (2 : Nat)), .inr (1, pt 2), .inl (.int .u64 (b2 : Nat)), .inl (.int .u64 (k1 : Nat)), .inl (.tuple #[.int .u64 (s2 : Nat), .int .u64 (k2 : Nat)]), .inl (.int .u64 (s2 : Nat)), .inl (.int .u64 (k2 : Nat)), .inr (3, pt 2), .inl (.tuple #[.int .u64 (r2 : Nat), .int .u64 (e2 : Nat)]), .inl (.int .i64 (2 : Nat)), .inl (.int .i64 (2 : Nat)), .inr (3, pt 2), .inl (.int .u64 (s2 : Nat)), .inl (.int .u64 (0 : Nat)), .inl (.int .u64 (e1 : Nat)), .inl (.tuple #[.int .u64 (r2 : Nat), .int .u64 (e2 : Nat)]), .inl (.int .u64 (r2 : Nat)), .inl (.int .u64 (e2 : Nat)), .inr (4, pt 2), .inl (.int .i64 (3 : Nat)), uu, uu, uu, uu]) (m' := [(w4 a0 a1 a2 a3, 87), (w4 b0 b1 b2 b3, 87), (w4 0 0 0 0, 87), (w4 s0 s1 s2 0, 87), (w4 r0 r1 r2 0, 87)]) (by kernel_rfl) (by kernel_rfl)
  replace h := h.o0
  refine rounds_1 ?_
  refine sym_seq ?_
  refine St.r0 h [] [] ?_ ?_
  · exact oz (k_bi (.int .i64 (3 : Nat)) (.int .i64 (4 : Nat)) (.bool true) (lt_i (m := ((3 : Nat) : Int)) (n := ((4 : Nat) : Int)) (by decide)) rfl rfl) <|
    ok_nil
  clear h; intro β a w h
  refine sym_then ?_
  refine sym_seq ?_
  refine s_ct h ?_
  refine wp_skip ?_
  refine sym_then ?_
  refine sym_seq ?_
  refine blk_in ?_
  refine sym_seq ?_
  refine St.r0 h [(14, .inl (.int .i64 (3 : Nat))), (15, .inl (.int .u64 (1152921504606846976 : Nat))), (9, .inl (.int .i64 (3 : Nat))), (10, .inl (.int .u64 (1152921504606846976 : Nat)))] [] ?_ ?_
  · exact oz (k_mv (.inl rfl) rfl) <|
    oz (k_ix (.agg (w4 6346243789798364141 1503914060200516822 0 1152921504606846976)) (.int .i64 (3 : Nat)) (.int .u64 (1152921504606846976 : Nat)) (fun w => by kernel_rfl) rfl rfl) <|
    oz (k_mv (.inr rfl) rfl) <|
    oz (k_mv (.inr rfl) rfl) <|
    ok_nil
  clear h; intro β a w h
  refine sym_then ?_
  refine sym_seq ?_
  refine St.rg h [(17, .inl (.int .i64 (3 : Nat))), (18, .inl (.int .i64 (3 : Nat))), (19, .inr (0, pt 3)), (20, .inl (.int .u64 (a3 : Nat))), (21, .inl (.int .i64 (3 : Nat))), (22, .inr (1, pt 3)), (23, .inl (.int .u64 (b3 : Nat))), (24, .inl (.int .u64 (k2 : Nat))), (25, .inl (.tuple #[.int .u64 (s3 : Nat), .int .u64 (k3 : Nat)])), (16, .inl (.tuple #[.int .u64 (s3 : Nat), .int .u64 (k3 : Nat)])), (26, .inl (.int .u64 (s3 : Nat))), (27, .inl (.int .u64 (k3 : Nat))), (28, .inr (3, pt 3)), (7, .inl (.int .u64 (k3 : Nat)))] [] [(3, w4 s0 s1 s2 s3)] [nn, nn, nn, eR 0, nn, nn, eR 1, eO, nn, nn, nn, nn, nn, eS 3] ?_ ?_
  · exact oc (k_mv (.inl rfl) rfl) <|
    oc (k_mv (.inl rfl) rfl) <|
    oc (k_ia 0 0 3 (.int .i64 (3 : Nat)) (fun w q => by kernel_rfl) rfl rfl) <|
    oc (k_ld 0 3 (.int .u64 (a3 : Nat)) (c := w4 a0 a1 a2 a3) (ld_w (i := 3) (v := a3) 87 rfl) rfl rfl) <|
    oc (k_mv (.inl rfl) rfl) <|
    oc (k_ia 1 0 3 (.int .i64 (3 : Nat)) (fun w q => by kernel_rfl) rfl rfl) <|
    oc (k_ld 1 3 (.int .u64 (b3 : Nat)) (c := w4 b0 b1 b2 b3) (ld_w (i := 3) (v := b3) 87 rfl) rfl rfl) <|
    oc (k_m0 rfl rfl) <|
    oc (k_cx 89 #[.int .u64 (a3 : Nat), .int .u64 (b3 : Nat), .int .u64 (k2 : Nat)] (.tuple #[.int .u64 (s3 : Nat), .int .u64 (k3 : Nat)]) ca3 rfl rfl) <|
    oc (k_mv (.inl rfl) rfl) <|
    oc (k_ex (.tuple #[.int .u64 (s3 : Nat), .int .u64 (k3 : Nat)]) (.int .u64 (s3 : Nat)) rfl rfl) <|
    oc (k_ex (.tuple #[.int .u64 (s3 : Nat), .int .u64 (k3 : Nat)]) (.int .u64 (k3 : Nat)) rfl rfl) <|
    oc (k_ia 3 0 3 (.int .i64 (3 : Nat)) (fun w q => by kernel_rfl) rfl rfl) <|
    oc (k_st 3 3 (.int .u64 (s3 : Nat)) (c := w4 s0 s1 s2 0) (n := w4 s0 s1 s2 s3) (st_w (i := 3) (v := s3) (n := w4 s0 s1 s2 s3) 87 rfl rfl) rfl rfl) <|
    oz (k_mv (.inr rfl) rfl) <|
    ok_nil
  clear h; intro β a w h
  refine sym_then ?_
  refine St.rg h [(30, .inl (.int .i64 (3 : Nat))), (31, .inl (.int .i64 (3 : Nat))), (32, .inr (3, pt 3)), (33, .inl (.int .u64 (s3 : Nat))), (34, .inl (.int .u64 (1152921504606846976 : Nat))), (35, .inl (.int .u64 (e2 : Nat))), (36, .inl (.tuple #[.int .u64 (r3 : Nat), .int .u64 (e3 : Nat)])), (29, .inl (.tuple #[.int .u64 (r3 : Nat), .int .u64 (e3 : Nat)])), (37, .inl (.int .u64 (r3 : Nat))), (38, .inl (.int .u64 (e3 : Nat))), (39, .inr (4, pt 3)), (8, .inl (.int .u64 (e3 : Nat)))] [] [(4, w4 r0 r1 r2 r3)] [nn, nn, nn, eR 3, nn, eO, nn, nn, nn, nn, nn, eS 4] ?_ ?_
  · exact oc (k_mv (.inl rfl) rfl) <|
    oc (k_mv (.inl rfl) rfl) <|
    oc (k_ia 3 0 3 (.int .i64 (3 : Nat)) (fun w q => by kernel_rfl) rfl rfl) <|
    oc (k_ld 3 3 (.int .u64 (s3 : Nat)) (c := w4 s0 s1 s2 s3) (ld_w (i := 3) (v := s3) 87 rfl) rfl rfl) <|
    oc (k_mv (.inl rfl) rfl) <|
    oc (k_m0 rfl rfl) <|
    oc (k_cx 90 #[.int .u64 (s3 : Nat), .int .u64 (1152921504606846976 : Nat), .int .u64 (e2 : Nat)] (.tuple #[.int .u64 (r3 : Nat), .int .u64 (e3 : Nat)]) cs3 rfl rfl) <|
    oc (k_mv (.inl rfl) rfl) <|
    oc (k_ex (.tuple #[.int .u64 (r3 : Nat), .int .u64 (e3 : Nat)]) (.int .u64 (r3 : Nat)) rfl rfl) <|
    oc (k_ex (.tuple #[.int .u64 (r3 : Nat), .int .u64 (e3 : Nat)]) (.int .u64 (e3 : Nat)) rfl rfl) <|
    oc (k_ia 4 0 3 (.int .i64 (3 : Nat)) (fun w q => by kernel_rfl) rfl rfl) <|
    oc (k_st 4 3 (.int .u64 (r3 : Nat)) (c := w4 r0 r1 r2 0) (n := w4 r0 r1 r2 r3) (st_w (i := 3) (v := r3) (n := w4 r0 r1 r2 r3) 87 rfl rfl) rfl rfl) <|
    oz (k_mv (.inr rfl) rfl) <|
    ok_nil
  clear h; intro β a w h
  refine blk_norm ?_
  refine sym_then ?_
  refine St.r0 h [(40, .inl (.int .i64 (4 : Nat))), (12, .inl (.int .i64 (4 : Nat)))] [eO] ?_ ?_
  · exact oc (k_b0 (.int .i64 (3 : Nat)) (.int .i64 (1 : Nat)) (.int .i64 (4 : Nat)) (ad_k (m := 3) (n := 1) rfl (by decide)) rfl rfl) <|
    oz (k_mv (.inl rfl) rfl) <|
    ok_nil
  clear h; intro β a w h
  refine then_norm ?_
  replace h := St.cs h (s' := [.inl (.agg (w4 a0 a1 a2 a3)), .inl (.agg (w4 b0 b1 b2 b3)), .inr (0, pt 0), .inr (1, pt 0), .inr (2, pt 0), .inr (3, pt 0), .inr (4, pt 0), .inl (.int .u64 (k3 : Nat)), .inl (.int .u64 (e3 : Nat)), .inl (.int .i64 (3 : Nat)), .inl (.int .u64 (1152921504606846976 : Nat)), .inl (.agg (w4 6346243789798364141 1503914060200516822 0 1152921504606846976)), .inl (.int .i64 (4 : Nat)), .inl (.bool true), .inl (.int .i64 (3 : Nat)), .inl (.int .u64 (1152921504606846976 : Nat)), .inl (.tuple #[.int .u64 (s3 : Nat), .int .u64 (k3 : Nat)]), .inl (.int .i64 (3 : Nat)), .inl (.int .i64 (3 : Nat)), .inr (0, pt 3), .inl (.int .u64 (a3 : Nat)), .inl (.int .i64 (3 : Nat)), .inr (1, pt 3), .inl (.int .u64 (b3 : Nat)), .inl (.int .u64 (k2 : Nat)), .inl (.tuple #[.int .u64 (s3 : Nat), .int .u64 (k3 : Nat)]), .inl (.int .u64 (s3 : Nat)), .inl (.int .u64 (k3 : Nat)), .inr (3, pt 3), .inl (.tuple #[.int .u64 (r3 : Nat), .int .u64 (e3 : Nat)]), .inl (.int .i64 (3 : Nat)), .inl (.int .i64 (3 : Nat)), .inr (3, pt 3), .inl (.int .u64 (s3 : Nat)), .inl (.int .u64 (1152921504606846976 : Nat)), .inl (.int .u64 (e2 : Nat)), .inl (.tuple #[.int .u64 (r3 : Nat), .int .u64 (e3 : Nat)]), .inl (.int .u64 (r3 : Nat)), .inl (.int .u64 (e3 : Nat)), .inr (4, pt 3), .inl (.int .i64 (4 : Nat)), uu, uu, uu, uu]) (m' := [(w4 a0 a1 a2 a3, 87), (w4 b0 b1 b2 b3, 87), (w4 0 0 0 0, 87), (w4 s0 s1 s2 s3, 87), (w4 r0 r1 r2 r3, 87)]) (by kernel_rfl) (by kernel_rfl)
  replace h := h.o0
  refine rounds_1 ?_
  refine sym_seq ?_
  refine St.r0 h [(13, .inl (.bool false))] [] ?_ ?_
  · exact oz (k_bi (.int .i64 (4 : Nat)) (.int .i64 (4 : Nat)) (.bool false) (lt_i (m := ((4 : Nat) : Int)) (n := ((4 : Nat) : Int)) (by decide)) rfl rfl) <|
    ok_nil
  clear h; intro β a w h
  refine sym_then ?_
  refine sym_seq ?_
  refine s_cf h ?_
  refine wp_exit ?_
  refine then_exit ?_
  refine then_exit ?_
  refine blk_exit ?_
  refine sym_then ?_
  refine sym_seq ?_
  refine sym_seq ?_
  refine St.r0 h [(41, .inl (.int .u64 (e3 : Nat))), (42, .inl (.bool false))] [] ?_ ?_
  · exact oz (k_mv (.inl rfl) rfl) <|
    oz (k_bi (.int .u64 (e3 : Nat)) (.int .u64 (1 : Nat)) (.bool false) (eq_u64 (m := e3) (n := 1) (decide_eq_false hb)) rfl rfl) <|
    ok_nil
  clear h; intro β a w h
  refine sym_then ?_
  refine s_cf h ?_
  refine wp_skip ?_
  refine sym_then ?_
  refine sym_seq ?_
  refine St.rg h [(44, .inl (.agg (w4 r0 r1 r2 r3)))] [] [(2, w4 r0 r1 r2 r3)] [eR 4, eS 2] ?_ ?_
  · exact oc (k_ld 4 0 (.agg (w4 r0 r1 r2 r3)) (c := w4 r0 r1 r2 r3) (ldW 87) rfl rfl) <|
    oc (k_st 2 0 (.agg (w4 r0 r1 r2 r3)) (c := w4 0 0 0 0) (n := w4 r0 r1 r2 r3) (stW 87 rfl) rfl rfl) <|
    ok_nil
  clear h; intro β a w h
  refine sym_then ?_
  refine wp_ret ?_
  exact s_rc (b := 2) (t0 := 87) (c := w4 r0 r1 r2 r3) h Tryz.results55 Tryz.underlying87 (fun hb => ⟨rfl, hb⟩) (by kernel_rfl)

theorem split4 (n : Nat) (h : n < 115792089237316195423570985008687907853269984665640564039457584007913129639936) : ∃ a0 a1 a2 a3 : Nat, a0 < 18446744073709551616 ∧ a1 < 18446744073709551616 ∧ a2 < 18446744073709551616 ∧ a3 < 18446744073709551616 ∧ n = a0 + 18446744073709551616 * a1 + 340282366920938463463374607431768211456 * a2 + 6277101735386680763835789423207666416102355444464034512896 * a3 := by
  have h1 := Nat.div_add_mod n 18446744073709551616
  have h2 := Nat.div_add_mod (n / 18446744073709551616) 18446744073709551616
  have h3 := Nat.div_add_mod (n / 18446744073709551616 / 18446744073709551616) 18446744073709551616
  have l1 := Nat.mod_lt n (y := 18446744073709551616) (by decide)
  have l2 := Nat.mod_lt (n / 18446744073709551616) (y := 18446744073709551616) (by decide)
  have l3 := Nat.mod_lt (n / 18446744073709551616 / 18446744073709551616) (y := 18446744073709551616) (by decide)
  have l4 : n / 18446744073709551616 / 18446744073709551616 / 18446744073709551616 < 18446744073709551616 := by rw [Nat.div_div_eq_div_mul, Nat.div_div_eq_div_mul]; exact Nat.div_lt_of_lt_mul h
  refine ⟨n % 18446744073709551616, n / 18446744073709551616 % 18446744073709551616, n / 18446744073709551616 / 18446744073709551616 % 18446744073709551616, n / 18446744073709551616 / 18446744073709551616 / 18446744073709551616, l1, l2, l3, l4, ?_⟩
  generalize n % 18446744073709551616 = r0 at *
  generalize n / 18446744073709551616 % 18446744073709551616 = r1 at *
  generalize n / 18446744073709551616 / 18446744073709551616 % 18446744073709551616 = r2 at *
  generalize n / 18446744073709551616 / 18446744073709551616 / 18446744073709551616 = q3 at *
  generalize n / 18446744073709551616 / 18446744073709551616 = q2 at *
  generalize n / 18446744073709551616 = q1 at *
  clear l1 l2 l3 l4 h
  omega
theorem sum_eq {m n a0 a1 a2 a3 b0 b1 b2 b3 s0 s1 s2 s3 k0 k1 k2 k3 : Nat} (em : m = a0 + 18446744073709551616 * a1 + 340282366920938463463374607431768211456 * a2 + 6277101735386680763835789423207666416102355444464034512896 * a3) (en : n = b0 + 18446744073709551616 * b1 + 340282366920938463463374607431768211456 * b2 + 6277101735386680763835789423207666416102355444464034512896 * b3) (x0 : s0 + 18446744073709551616 * k0 = a0 + b0 + 0) (x1 : s1 + 18446744073709551616 * k1 = a1 + b1 + k0) (x2 : s2 + 18446744073709551616 * k2 = a2 + b2 + k1) (x3 : s3 + 18446744073709551616 * k3 = a3 + b3 + k2) : s0 + 18446744073709551616 * s1 + 340282366920938463463374607431768211456 * s2 + 6277101735386680763835789423207666416102355444464034512896 * s3 + 115792089237316195423570985008687907853269984665640564039457584007913129639936 * k3 = m + n := by omega
theorem dif_eq {s0 s1 s2 s3 r0 r1 r2 r3 e0 e1 e2 e3 : Nat} (y0 : r0 + 6346243789798364141 + 0 = s0 + 18446744073709551616 * e0) (y1 : r1 + 1503914060200516822 + e0 = s1 + 18446744073709551616 * e1) (y2 : r2 + 0 + e1 = s2 + 18446744073709551616 * e2) (y3 : r3 + 1152921504606846976 + e2 = s3 + 18446744073709551616 * e3) : r0 + 18446744073709551616 * r1 + 340282366920938463463374607431768211456 * r2 + 6277101735386680763835789423207666416102355444464034512896 * r3 + 7237005577332262213973186563042994240857116359379907606001950938285454250989 = s0 + 18446744073709551616 * s1 + 340282366920938463463374607431768211456 * s2 + 6277101735386680763835789423207666416102355444464034512896 * s3 + 115792089237316195423570985008687907853269984665640564039457584007913129639936 * e3 := by omega
theorem four_lt {a b c d : Nat} (ha : a < 18446744073709551616) (hb : b < 18446744073709551616) (hc : c < 18446744073709551616) (hd : d < 18446744073709551616) : a + 18446744073709551616 * b + 340282366920938463463374607431768211456 * c + 6277101735386680763835789423207666416102355444464034512896 * d < 115792089237316195423570985008687907853269984665640564039457584007913129639936 := by omega
theorem only_S {m n S k : Nat} (hm : m < 7237005577332262213973186563042994240857116359379907606001950938285454250989) (hn : n < 7237005577332262213973186563042994240857116359379907606001950938285454250989) (hS : S < 115792089237316195423570985008687907853269984665640564039457584007913129639936) (h : S + 115792089237316195423570985008687907853269984665640564039457584007913129639936 * k = m + n) : S = m + n := by omega
theorem bor_S {m n S R e : Nat} (hR : R < 115792089237316195423570985008687907853269984665640564039457584007913129639936) (h : R + 7237005577332262213973186563042994240857116359379907606001950938285454250989 = S + 115792089237316195423570985008687907853269984665640564039457584007913129639936 * e) (he : e = 1) (hS : S = m + n) : m + n < 7237005577332262213973186563042994240857116359379907606001950938285454250989 := by omega
theorem nob_R {m n S R e : Nat} (hm : m < 7237005577332262213973186563042994240857116359379907606001950938285454250989) (hn : n < 7237005577332262213973186563042994240857116359379907606001950938285454250989) (h : R + 7237005577332262213973186563042994240857116359379907606001950938285454250989 = S + 115792089237316195423570985008687907853269984665640564039457584007913129639936 * e) (he : e ≤ 1) (hb : ¬ e = 1) (hS : S = m + n) : (m + n) % 7237005577332262213973186563042994240857116359379907606001950938285454250989 = R := by
  have h1 : R + 7237005577332262213973186563042994240857116359379907606001950938285454250989 = m + n := by omega
  rw [← h1, Nat.add_mod_right, Nat.mod_eq_of_lt (by omega)]
def sumL (m n : Nat) : Nat := (m + n) % oL
theorem plus_res {m n : Nat} (hm : m < oL) (hn : n < oL) (W0 : World) : Calls Tryz.prog 55 #[.agg (rs m), .agg (rs n)] W0 fun e w' => e = .returned (.agg (rs (sumL m n))) ∧ Below W0.heap.size W0 w' := by
  unfold sumL
  have hl : oL = 7237005577332262213973186563042994240857116359379907606001950938285454250989 := rfl
  rw [hl] at hm hn ⊢
  clear hl
  obtain ⟨a0, a1, a2, a3, p0, p1, p2, p3, em⟩ := split4 m (by omega)
  obtain ⟨b0, b1, b2, b3, q0, q1, q2, q3, en⟩ := split4 n (by omega)
  obtain ⟨s0, k0, s0l, k0l, x0, ca0⟩ := add64_ex a0 b0 0 p0 q0 (by omega)
  obtain ⟨s1, k1, s1l, k1l, x1, ca1⟩ := add64_ex a1 b1 k0 p1 q1 k0l
  obtain ⟨s2, k2, s2l, k2l, x2, ca2⟩ := add64_ex a2 b2 k1 p2 q2 k1l
  obtain ⟨s3, k3, s3l, k3l, x3, ca3⟩ := add64_ex a3 b3 k2 p3 q3 k2l
  obtain ⟨r0, e0, r0l, e0l, y0, cs0⟩ := sub64_ex s0 6346243789798364141 0 s0l (by decide) (by decide)
  obtain ⟨r1, e1, r1l, e1l, y1, cs1⟩ := sub64_ex s1 1503914060200516822 e0 s1l (by decide) e0l
  obtain ⟨r2, e2, r2l, e2l, y2, cs2⟩ := sub64_ex s2 0 e1 s2l (by decide) e1l
  obtain ⟨r3, e3, r3l, e3l, y3, cs3⟩ := sub64_ex s3 1152921504606846976 e2 s3l (by decide) e2l
  have hS := sum_eq em en x0.out x1.out x2.out x3.out
  have hR := dif_eq y0.out y1.out y2.out y3.out
  have hSl := four_lt s0l s1l s2l s3l
  have hRl := four_lt r0l r1l r2l r3l
  obtain ⟨S, eS⟩ : ∃ S, S = s0 + 18446744073709551616 * s1 + 340282366920938463463374607431768211456 * s2 + 6277101735386680763835789423207666416102355444464034512896 * s3 := ⟨_, rfl⟩
  obtain ⟨R, eR⟩ : ∃ R, R = r0 + 18446744073709551616 * r1 + 340282366920938463463374607431768211456 * r2 + 6277101735386680763835789423207666416102355444464034512896 * r3 := ⟨_, rfl⟩
  rw [← eS] at hS hR hSl
  rw [← eR] at hR hRl
  have hk : S = m + n := only_S hm hn hSl hS
  rw [← rs_of p0 p1 p2 p3 em, ← rs_of q0 q1 q2 q3 en]
  by_cases hb : e3 = 1
  · rw [← rs_of s0l s1l s2l s3l (n := (m + n) % 7237005577332262213973186563042994240857116359379907606001950938285454250989) (by rw [Nat.mod_eq_of_lt (bor_S hRl hR hb hk), ← hk, eS])]
    exact pls_s ca0 ca1 ca2 ca3 cs0 cs1 cs2 cs3 hb W0
  · rw [← rs_of r0l r1l r2l r3l (n := (m + n) % 7237005577332262213973186563042994240857116359379907606001950938285454250989) (by rw [nob_R hm hn hR e3l hb hk, eR])]
    exact pls_r ca0 ca1 ca2 ca3 cs0 cs1 cs2 cs3 hb W0
theorem sumL_lt (m n : Nat) : sumL m n < oL := Nat.mod_lt _ (by decide +kernel)
end Go.Proofs.YtacokkedomjgpaaGreatDoor

namespace Go.Proofs.YtacokkedomjgpaaGreatDoor
open Go.RowKit Go.Shelf

def nB (f : Nat → Nat) : Nat → Nat
  | 0 => 0
  | k + 1 => nB f k + f k * 256 ^ k
theorem nB_lt {f : Nat → Nat} (hf : ∀ i, f i < 256) : ∀ k, nB f k < 256 ^ k
  | 0 => by show 0 < 1; omega
  | k + 1 => by
    have h1 := nB_lt hf k
    have h2 := hf k
    have h3 : f k * 256 ^ k ≤ 255 * 256 ^ k := Nat.mul_le_mul_right _ (by omega)
    show nB f k + f k * 256 ^ k < 256 ^ (k + 1)
    rw [Nat.pow_succ]; omega
theorem nB_byte {f : Nat → Nat} (hf : ∀ i, f i < 256) : ∀ k i, i < k → nB f k / 256 ^ i % 256 = f i
  | 0, _, h => by omega
  | k + 1, i, h => by
    show (nB f k + f k * 256 ^ k) / 256 ^ i % 256 = f i
    have h1 := nB_lt hf k
    have hp : 0 < 256 ^ i := Nat.pow_pos (by omega)
    by_cases e : i = k
    · subst e
      rw [Nat.add_mul_div_right _ _ hp, Nat.div_eq_of_lt h1, Nat.zero_add, Nat.mod_eq_of_lt (hf i)]
    · have e2 : f k * 256 ^ k = f k * 256 ^ (k - i - 1) * 256 * 256 ^ i := by
        rw [Nat.mul_assoc, Nat.mul_assoc, Nat.mul_comm 256, ← Nat.pow_succ, ← Nat.pow_add, show k - i - 1 + (i + 1) = k by omega]
      rw [e2, Nat.add_mul_div_right _ _ hp, Nat.add_mul_mod_self_right]
      exact nB_byte hf k i (by omega)
theorem fg_nB {f : Nat → Nat} (hf : ∀ i, f i < 256) (k j : Nat) (h : j < 8 * k) : fg f j = nB f k / 2 ^ j % 2 := by
  unfold fg
  rw [← nB_byte hf k (j / 8) (by omega)]
  have e : 2 ^ j = 256 ^ (j / 8) * 2 ^ (j % 8) := by
    rw [show (256 : Nat) = 2 ^ 8 from rfl, ← Nat.pow_mul, ← Nat.pow_add]; congr 1; omega
  rw [e, ← Nat.div_div_eq_div_mul]
  generalize nB f k / 256 ^ (j / 8) = m
  have hr : j % 8 < 8 := Nat.mod_lt _ (by omega)
  generalize j % 8 = r at hr
  obtain rfl | rfl | rfl | rfl | rfl | rfl | rfl | rfl : r = 0 ∨ r = 1 ∨ r = 2 ∨ r = 3 ∨ r = 4 ∨ r = 5 ∨ r = 6 ∨ r = 7 := by omega
  all_goals omega
theorem fldL {f : Nat → Nat} (hf : ∀ i, f i < 256) {a : Nat} (n : Nat) : ∀ k, k ≤ 8 * n → fldM sumL 0 a (tops f (8 * n) k) = nB f n / 2 ^ (8 * n - k) * a % oL
  | 0, _ => by
    have h := nB_lt hf n
    rw [show (256 : Nat) = 2 ^ 8 from rfl, ← Nat.pow_mul] at h
    show 0 = _
    rw [Nat.sub_zero, Nat.div_eq_of_lt h, Nat.zero_mul, Nat.zero_mod]
  | k + 1, h => by
    have ih := fldL hf (a := a) n k (by omega)
    have e : 8 * n - k = (8 * n - 1 - k) + 1 := by omega
    have e2 : 8 * n - (k + 1) = 8 * n - 1 - k := by omega
    rw [e, Nat.pow_succ, ← Nat.div_div_eq_div_mul] at ih
    rw [tops_succ, e2]
    have hb := fg_nB hf n (8 * n - 1 - k) (by omega)
    generalize nB f n / 2 ^ (8 * n - 1 - k) = m at *
    rcases Nat.mod_two_eq_zero_or_one m with h2 | h2
    · rw [h2] at hb
      rw [fldM_0 _ _ _ _ (by omega), ih]
      unfold sumL
      rw [← Nat.add_mod, ← Nat.add_mul, show m / 2 + m / 2 = m by omega]
    · rw [h2] at hb
      rw [hb, fldM_1, ih]
      unfold sumL
      rw [← Nat.add_mod, ← Nat.add_mul, Nat.mod_add_mod]
      congr 1
      have : m = m / 2 + m / 2 + 1 := by omega
      rw [this, Nat.add_mul (m / 2 + m / 2) 1, Nat.one_mul]
      congr 2 <;> omega
theorem fldL_all {f : Nat → Nat} (hf : ∀ i, f i < 256) {a : Nat} (n : Nat) : fldM sumL 0 a (tops f (8 * n) (8 * n)) = nB f n * a % oL := by
  rw [fldL hf n _ (Nat.le_refl _), Nat.sub_self, Nat.pow_zero, Nat.div_one]

theorem rs_size (n : Nat) : (rs n).size = 4 := rfl
theorem rs_one (n : Nat) : (rs n).all (·.oneCell') = true := w4_one _ _ _ _
theorem ldN {n : Nat} (t0 : TypeId) (w : World) (q : Nat) (h : w.heap[q]? = some (.cells (rs n) t0 (0, 0))) : (Instr.loadAt 87 (.pointer (some ⟨q, 0, none⟩))).run Tryz.prog w = .ok (.agg (rs n)) w := ldW t0 w q h
theorem stN' {n : Nat} {e : Array Value} (t0 : TypeId) (he : e.size = 4) (w : World) (q : Nat) (h : w.heap[q]? = some (.cells e t0 (0, 0))) : (Instr.storeAt 87 (.pointer (some ⟨q, 0, none⟩)) (.agg (rs n))).run Tryz.prog w = .ok () (w.setRow q (rs n)) := stW t0 he w q h
theorem alN (w : World) : (Instr.alloc 87 true (.tuple #[])).run Tryz.prog w = .ok (.pointer (some ⟨w.heap.size, 0, none⟩)) (w.alloc (.cells (rs 0) 87)) := alW w
theorem bxN {n : Nat} (w : World) : (Instr.box 87 (.agg (rs n))).run Tryz.prog w = .ok (.pointer (some ⟨w.heap.size, 0, none⟩)) (w.alloc (.cells (rs n) 87)) := bx_agg w
theorem bdN0 (w : World) : (Instr.build 87 #[]).run Tryz.prog w = .ok (.agg (rs 0)) w := by kernel_rfl
theorem bdN1 (w : World) : (Instr.build 87 #[(0, .int .u64 (1 : Nat))]).run Tryz.prog w = .ok (.agg (rs 1)) w := by kernel_rfl
theorem many_L {a : Nat} (ha : a < oL) {aa : Option Addr} {len cap : Nat} {f : Nat → Nat} (hm : len ≤ 1000) (W0 : World) (hb : Bs W0 aa len f) :
    Calls Tryz.prog 87 #[.slice aa len cap, .agg (rs 0), .agg (rs a), .func (.func 55) #[] #[]] W0 fun e w' => e = .returned (.agg (rs (nB f len * a % oL))) ∧ Below W0.heap.size W0 w' := by
  have h := many_res (Vl := rs) (G := fun n => n < oL) (add := sumL) (zc0 := rs 0) (fun n => by rw [rs_size]; kernel_rfl) (fun _ _ => rfl) (fun _ => rfl) rs_one alN (fun _ _ _ _ => sumL_lt _ _) (fun m n h1 h2 w => plus_res h1 h2 w) (no := 0) (one := a) (by decide +kernel) ha (aa := aa) (len := len) (cap := cap) (f := f) hm W0 hb
  rwa [fldL_all hb.1] at h
theorem gt_i {x u : Operand} {m n : Int} {b : Bool} (h : decide (n < m) = b) (w : World) : (do eqGuard .gtr 3 x u (.int .i64 m) (.int .i64 n); binOp .gtr 3 (.int .i64 m) (.int .i64 n)).run Tryz.prog w = .ok (.bool b) w := by
  subst h; simp [eqGuard, binOp, go_sem]
theorem len_run {aa : Option Addr} {n c : Nat} (ty : TypeId) (w : World) : (Builtin.len_ #[31] ty #[.slice aa n c]).run Tryz.prog w = .ok (.int .i64 (n : Nat)) w := by
  simp [Builtin.len_, go_sem]
theorem sl_k (w : World) (q : Nat) : (Instr.sliceAt 23 (.pointer (some ⟨q, 0, none⟩)) none none none).run Tryz.prog w = .ok (.slice (some ⟨q, 0, none⟩) 32 32) w := by kernel_rfl
def wq (n i : Nat) : Nat := n / 18446744073709551616 ^ i % 18446744073709551616
def kq (n i : Nat) : Nat := n / 256 ^ i % 256
theorem rs_get {n i : Nat} (h : i < 4) : (rs n)[i]? = some (.int .u64 (wq n i : Nat)) := by
  obtain rfl | rfl | rfl | rfl : i = 0 ∨ i = 1 ∨ i = 2 ∨ i = 3 := by omega
  · simp [rs, w4, wq]
  · simp [rs, w4, wq]
  · rfl
  · rfl
theorem ixN {i : Nat} (hi : i < 4) (w : World) (q : Nat) : (Instr.indexAt 87 (.pointer (some ⟨q, 0, none⟩)) (.int .i64 (i : Nat))).run Tryz.prog w = .ok (.pointer (some ⟨q, i, none⟩)) w := by
  simp [Instr.indexAt, go_sem, hi, addr_add]
theorem sr_q {x u : Operand} {m r : Nat} (hr : r < 64) (w : World) : (do eqGuard .shr 42 x u (.int .u64 (m : Nat)) (.int .i64 (r : Nat)); binOp .shr 42 (.int .u64 (m : Nat)) (.int .i64 (r : Nat))).run Tryz.prog w = .ok (.int .u64 (m / 2 ^ r : Nat)) w := by
  simp [eqGuard, binOp, go_sem]
theorem cv_qb {n : Nat} (w : World) : (convert 42 5 (.int .u64 (n : Nat))).run Tryz.prog w = .ok (.int .u8 (n % 256 : Nat)) w := by
  have h1 : IntKind.u8.wrap (n : Int) = ((n % 256 : Nat) : Int) := by rw [IntKind.wrap_u8]; omega
  simp [convert, go_sem, h1]
theorem key_byte (n i : Nat) : wq n (i / 8) / 2 ^ (i % 8 * 8) % 256 = kq n i := by
  unfold wq kq
  have e : 256 ^ i = 18446744073709551616 ^ (i / 8) * 2 ^ (i % 8 * 8) := by
    rw [show (256 : Nat) = 2 ^ 8 from rfl, show (18446744073709551616 : Nat) = 2 ^ 64 from rfl, ← Nat.pow_mul, ← Nat.pow_mul, ← Nat.pow_add]
    congr 1; omega
  rw [e, ← Nat.div_div_eq_div_mul]
  generalize n / 18446744073709551616 ^ (i / 8) = m
  have hr : i % 8 < 8 := Nat.mod_lt _ (by omega)
  generalize i % 8 = r at hr
  obtain rfl | rfl | rfl | rfl | rfl | rfl | rfl | rfl : r = 0 ∨ r = 1 ∨ r = 2 ∨ r = 3 ∨ r = 4 ∨ r = 5 ∨ r = 6 ∨ r = 7 := by omega
  all_goals omega
def kF (n k i : Nat) : Nat := if i < k then kq n i else 0
theorem kF_next (n k : Nat) : ck (updN (kF n k) k (wq n (k / 8) / 2 ^ (k % 8 * 8) % 256)) = ck (kF n (k + 1)) := by
  rw [key_byte]
  refine ck_congr fun i _ => ?_
  unfold updN kF
  by_cases h : i = k
  · subst h; simp
  · have : (i < k + 1) = (i < k) := by simp; omega
    simp [h, this]
theorem kF_0 (n : Nat) : ck (fun _ => 0) = ck (kF n 0) := ck_congr fun i _ => by simp [kF]
theorem kF_end (n : Nat) : ck (kF n 32) = ck (kq n) := ck_congr fun i h => by simp [kF, h]
theorem kq_lt (n i : Nat) : kq n i < 256 := Nat.mod_lt _ (by omega)
end Go.Proofs.YtacokkedomjgpaaGreatDoor

namespace Go.Proofs.YtacokkedomjgpaaGreatDoor
open Go.RowKit Go.Shelf
theorem bdK0 (w : World) : (Instr.build 23 #[]).run Tryz.prog w = .ok (.agg (ck (fun _ => 0))) w := by rw [ck_zero]; kernel_rfl

set_option maxHeartbeats 4000000 in
theorem times_L {g : Nat} (ha : g < oL) {aa : Option Addr} {len cap : Nat} {f : Nat → Nat} (hm : len ≤ 1000) (W0 : World) (hb : Bs W0 aa len f) : Calls Tryz.prog 54 #[.slice aa len cap, .agg (rs g)] W0 fun e w' => e = .returned (.agg (rs (nB f len * g % oL))) ∧ Below W0.heap.size W0 w' := by
  refine s_in Tryz.func54 Tryz.ntmps54 rfl [.inl (.slice aa len cap), .inl (.agg (rs g))] ?_
  intro β a h
  refine sym_seq ?_
  refine St.rg h [(3, .inr (0, pt 0)), (4, .inr (1, pt 0))] [(rs g, 87), (rs 0, 87)] [] [eN 0, eN 1] ?_ ?_
  · exact oc (k_bx 0 (.agg (rs g)) (bxN (n := g)) rfl rfl) <|
    oc (k_al 1 alN rfl rfl) <|
    ok_nil
  clear h; intro β a w h
  refine sym_then ?_
  refine sym_seq ?_
  refine St.rg h [(5, .inl (.slice aa len cap)), (6, .inl (.agg (rs 0))), (7, .inl (.agg (rs g))), (8, .inl (.agg (rs (nB f len * g % oL))))] [] [(1, rs (nB f len * g % oL))] [nn, nn, eR 0, nn, eS 1] ?_ ?_
  · exact oc (k_mv (.inl rfl) rfl) <|
    oc (k_bu #[] (.agg (rs 0)) bdN0 rfl rfl) <|
    oc (k_ld 0 0 (.agg (rs g)) (c := rs g) (ldN (n := g) 87) rfl rfl) <|
    oc (k_cw 87 #[.slice aa len cap, .agg (rs 0), .agg (rs g), .func (.func 55) #[] #[]] (.agg (rs (nB f len * g % oL))) (fun w hw => many_L ha hm w (hb.later hw.below)) rfl rfl) <|
    oc (k_st 1 0 (.agg (rs (nB f len * g % oL))) (c := rs 0) (n := rs (nB f len * g % oL)) (stN' (n := (nB f len * g % oL)) 87 rfl) rfl rfl) <|
    ok_nil
  clear h; intro β a w h
  refine sym_then ?_
  refine wp_ret ?_
  exact s_rc (b := 1) (t0 := 87) (c := rs (nB f len * g % oL)) h Tryz.results54 Tryz.underlying87 (fun hb => ⟨rfl, hb⟩) (by rw [rs_size]; kernel_rfl)

set_option maxHeartbeats 4000000 in
theorem rkey_L (g : Nat) (W0 : World) : Calls Tryz.prog 56 #[.agg (rs g)] W0 fun e w' => e = .returned (.agg (ck (kq g))) ∧ Below W0.heap.size W0 w' := by
  rw [← kF_end]
  refine s_in Tryz.func56 Tryz.ntmps56 rfl [.inl (.agg (rs g))] ?_
  intro β a h
  refine sym_seq ?_
  refine St.rg h [(1, .inr (0, pt 0)), (2, .inr (1, pt 0))] [(rs g, 87), (ck (fun _ => 0), 23)] [] [eN 0, eN 1] ?_ ?_
  · exact oc (k_bx 0 (.agg (rs g)) (bxN (n := g)) rfl rfl) <|
    oc (k_al 1 alK rfl rfl) <|
    ok_nil
  clear h; intro β a w h
  refine sym_then ?_
  refine sym_seq ?_
  refine St.rg h [(3, .inr (2, pt 0))] [(ck (fun _ => 0), 23)] [] [eN 2] ?_ ?_
  · exact oc (k_al 2 alK rfl rfl) <|
    ok_nil
  clear h; intro β a w h
  refine sym_then ?_
  refine sym_seq ?_
  refine sym_seq ?_
  refine St.r0 h [(5, .inl (.int .i64 (0 : Nat)))] [] ?_ ?_
  · exact oz (k_mv (.inl rfl) rfl) <|
    ok_nil
  clear h; intro β a w h
  refine sym_then ?_
  refine blk_in ?_
  replace h := St.sm h 2 (ck (kF g 0)) (c := ck (fun _ => 0)) (t := 23) (kF_0 g)
  replace h := St.cs h (s' := [.inl (.agg (rs g)), .inr (0, pt 0), .inr (1, pt 0), .inr (2, pt 0), uu, .inl (.int .i64 (0 : Nat)), uu, uu, uu, uu, uu, uu, uu, uu, uu, uu, uu, uu, uu, uu, uu]) (m' := [(rs g, 87), (ck (fun _ => 0), 23), (ck (kF g 0), 23)]) (by kernel_rfl) (by kernel_rfl)
  refine loop_up 32 (fun k a w => ∃ (x4 x6 x7 x8 x9 x10 x11 x12 x13 x14 x15 x16 x17 x18 x19 : SV) (β : Nat → Nat), St (wd W0) [.inl (.agg (rs g)), .inr (0, pt 0), .inr (1, pt 0), .inr (2, pt 0), x4, .inl (.int .i64 (k : Nat)), x6, x7, x8, x9, x10, x11, x12, x13, x14, x15, x16, x17, x18, x19, uu] [(rs g, 87), (ck (fun _ => 0), 23), (ck (kF g k), 23)] β a w) ⟨_, _, _, _, _, _, _, _, _, _, _, _, _, _, _, β, h⟩ ?_
  clear h; rintro k a w hkk ⟨x4, x6, x7, x8, x9, x10, x11, x12, x13, x14, x15, x16, x17, x18, x19, β, h⟩; replace h := h.o0
  rcases Nat.lt_or_ge k 32 with hltk | hgek
  · refine sym_seq ?_
    refine St.r0 h [(6, .inl (.bool true))] [] ?_ ?_
    · exact oz (k_bi (.int .i64 (k : Nat)) (.int .i64 (32 : Nat)) (.bool true) (lt_i (m := ((k : Nat) : Int)) (n := ((32 : Nat) : Int)) (decide_eq_true (by omega))) rfl rfl) <|
      ok_nil
    clear h; intro β a w h
    refine sym_then ?_
    refine sym_seq ?_
    refine s_ct h ?_
    refine wp_skip ?_
    refine sym_then ?_
    refine sym_seq ?_
    refine blk_in ?_
    refine sym_seq ?_
    refine St.r0 h [(7, .inl (.int .i64 (k : Nat))), (4, .inl (.int .i64 (k : Nat)))] [] ?_ ?_
    · exact oz (k_mv (.inl rfl) rfl) <|
      oz (k_mv (.inr rfl) rfl) <|
      ok_nil
    clear h; intro β a w h
    refine sym_then ?_
    refine St.rg h [(8, .inl (.int .i64 (k : Nat))), (9, .inl (.int .i64 (k : Nat))), (10, .inl (.int .i64 ((k / 8) : Nat))), (11, .inr (0, pt (k / 8))), (12, .inl (.int .u64 ((wq g (k / 8)) : Nat))), (13, .inl (.int .i64 (k : Nat))), (14, .inl (.int .i64 ((k % 8) : Nat))), (15, .inl (.int .i64 (((k % 8) * 8) : Nat))), (16, .inl (.int .u64 (((wq g (k / 8)) / 2 ^ ((k % 8) * 8)) : Nat))), (17, .inl (.int .u8 ((((wq g (k / 8)) / 2 ^ ((k % 8) * 8)) % 256) : Nat))), (18, .inr (2, pt k))] [] [(2, ck (updN (kF g k) k (((wq g (k / 8)) / 2 ^ ((k % 8) * 8)) % 256)))] [nn, nn, nn, nn, eR 0, nn, nn, nn, nn, nn, nn, eS 2] ?_ ?_
    · exact oc (k_mv (.inl rfl) rfl) <|
      oc (k_mv (.inl rfl) rfl) <|
      oc (k_bi (.int .i64 (k : Nat)) (.int .i64 (8 : Nat)) (.int .i64 ((k / 8) : Nat)) (qu_i (m := k) (n := 8) (by decide) (by omega)) rfl rfl) <|
      oc (k_ia 0 0 ((k / 8)) (.int .i64 ((k / 8) : Nat)) (ixN (i := (k / 8)) (by omega)) rfl rfl) <|
      oc (k_ld 0 ((k / 8)) (.int .u64 ((wq g (k / 8)) : Nat)) (c := rs g) (ld_w (i := (k / 8)) (v := wq g (k / 8)) 87 (rs_get (by omega))) rfl rfl) <|
      oc (k_mv (.inl rfl) rfl) <|
      oc (k_bi (.int .i64 (k : Nat)) (.int .i64 (8 : Nat)) (.int .i64 ((k % 8) : Nat)) (re_i (m := k) (n := 8) (by decide)) rfl rfl) <|
      oc (k_bi (.int .i64 ((k % 8) : Nat)) (.int .i64 (8 : Nat)) (.int .i64 (((k % 8) * 8) : Nat)) (mu_i (m := (k % 8)) (n := 8) (by omega)) rfl rfl) <|
      oc (k_bi (.int .u64 ((wq g (k / 8)) : Nat)) (.int .i64 (((k % 8) * 8) : Nat)) (.int .u64 (((wq g (k / 8)) / 2 ^ ((k % 8) * 8)) : Nat)) (sr_q (m := (wq g (k / 8))) (r := ((k % 8) * 8)) (by omega)) rfl rfl) <|
      oc (k_co (.int .u64 (((wq g (k / 8)) / 2 ^ ((k % 8) * 8)) : Nat)) (.int .u8 ((((wq g (k / 8)) / 2 ^ ((k % 8) * 8)) % 256) : Nat)) (cv_qb (n := ((wq g (k / 8)) / 2 ^ ((k % 8) * 8)))) rfl rfl) <|
      oc (k_ia 2 0 k (.int .i64 (k : Nat)) (ixK (i := k) (by omega)) rfl rfl) <|
      oc (k_st 2 k (.int .u8 ((((wq g (k / 8)) / 2 ^ ((k % 8) * 8)) % 256) : Nat)) (c := ck (kF g k)) (n := ck (updN (kF g k) k (((wq g (k / 8)) / 2 ^ ((k % 8) * 8)) % 256))) (st_k (F := (kF g k)) (i := k) (v := (((wq g (k / 8)) / 2 ^ ((k % 8) * 8)) % 256)) (t0 := 23) (by omega)) rfl rfl) <|
      ok_nil
    clear h; intro β a w h
    refine blk_norm ?_
    refine sym_then ?_
    refine St.r0 h [(19, .inl (.int .i64 ((k + 1) : Nat))), (5, .inl (.int .i64 ((k + 1) : Nat)))] [eO] ?_ ?_
    · exact oc (k_b0 (.int .i64 (k : Nat)) (.int .i64 (1 : Nat)) (.int .i64 ((k + 1) : Nat)) (ad_i (m := k) (n := 1) (by omega)) rfl rfl) <|
      oz (k_mv (.inl rfl) rfl) <|
      ok_nil
    clear h; intro β a w h
    replace h := St.sm h 2 (ck (kF g (k + 1))) (c := ck (updN (kF g k) k (((wq g (k / 8)) / 2 ^ ((k % 8) * 8)) % 256))) (t := 23) (kF_next g k)
    replace h := St.cs h (s' := [.inl (.agg (rs g)), .inr (0, pt 0), .inr (1, pt 0), .inr (2, pt 0), .inl (.int .i64 (k : Nat)), .inl (.int .i64 ((k + 1) : Nat)), .inl (.bool true), .inl (.int .i64 (k : Nat)), .inl (.int .i64 (k : Nat)), .inl (.int .i64 (k : Nat)), .inl (.int .i64 ((k / 8) : Nat)), .inr (0, pt (k / 8)), .inl (.int .u64 ((wq g (k / 8)) : Nat)), .inl (.int .i64 (k : Nat)), .inl (.int .i64 ((k % 8) : Nat)), .inl (.int .i64 (((k % 8) * 8) : Nat)), .inl (.int .u64 (((wq g (k / 8)) / 2 ^ ((k % 8) * 8)) : Nat)), .inl (.int .u8 ((((wq g (k / 8)) / 2 ^ ((k % 8) * 8)) % 256) : Nat)), .inr (2, pt k), .inl (.int .i64 ((k + 1) : Nat)), uu]) (m' := [(rs g, 87), (ck (fun _ => 0), 23), (ck (kF g (k + 1)), 23)]) (by kernel_rfl) (by kernel_rfl)
    exact ⟨hltk, _, _, _, _, _, _, _, _, _, _, _, _, _, _, _, _, h⟩
  · obtain rfl : k = 32 := by omega
    refine sym_seq ?_
    refine St.r0 h [(6, .inl (.bool false))] [] ?_ ?_
    · exact oz (k_bi (.int .i64 (32 : Nat)) (.int .i64 (32 : Nat)) (.bool false) (lt_i (m := ((32 : Nat) : Int)) (n := ((32 : Nat) : Int)) (decide_eq_false (by omega))) rfl rfl) <|
      ok_nil
    clear h; intro β a w h
    refine sym_then ?_
    refine sym_seq ?_
    refine s_cf h ?_
    refine wp_exit ?_
    refine then_exit ?_
    refine then_exit ?_
    refine blk_exit ?_
    refine sym_then ?_
    refine sym_seq ?_
    refine St.rg h [(20, .inl (.agg (ck (kF g 32))))] [] [(1, ck (kF g 32))] [eR 2, eS 1] ?_ ?_
    · exact oc (k_ld 2 0 (.agg (ck (kF g 32))) (c := ck (kF g 32)) (ldK (b := (kF g 32)) 23) rfl rfl) <|
      oc (k_st 1 0 (.agg (ck (kF g 32))) (c := ck (fun _ => 0)) (n := ck (kF g 32)) (stK (F := (kF g 32)) (c := ck (fun _ => 0)) 23 (ck_size _)) rfl rfl) <|
      ok_nil
    clear h; intro β a w h
    refine sym_then ?_
    refine wp_ret ?_
    exact s_rc (b := 1) (t0 := 23) (c := ck (kF g 32)) h Tryz.results56 Tryz.underlying23 (fun hb => ⟨rfl, hb⟩) (by rw [ck_size]; kernel_rfl)

theorem one_oL : 1 < oL := by decide +kernel
set_option maxHeartbeats 4000000 in
theorem residue_f {aa : Option Addr} {len cap : Nat} {f : Nat → Nat} (hl : len ≤ 64) (W0 : World) (hb : Bs W0 aa len f) : Calls Tryz.prog 41 #[.slice aa len cap] W0 fun e w' => e = .returned (.tuple #[.agg (ck (kq (nB f len * 1 % oL))), .bool true]) ∧ Below W0.heap.size W0 w' := by
  refine s_in Tryz.func41 Tryz.ntmps41 rfl [.inl (.slice aa len cap)] ?_
  intro β a h
  refine sym_seq ?_
  refine St.rg h [(2, .inr (0, pt 0)), (3, .inl (.bool false))] [(ck (fun _ => 0), 23)] [] [eN 0] ?_ ?_
  · exact oc (k_al 0 alK rfl rfl) <|
    oz (k_mv (.inr rfl) rfl) <|
    ok_nil
  clear h; intro β a w h
  refine sym_then ?_
  refine sym_seq ?_
  refine sym_seq ?_
  refine St.r0 h [(4, .inl (.slice aa len cap)), (5, .inl (.int .i64 (len : Nat))), (6, .inl (.bool false))] [] ?_ ?_
  · exact oz (k_mv (.inl rfl) rfl) <|
    oz (k_ln len cap rfl rfl (fun w => len_run _ w) (ad := aa)) <|
    oz (k_bi (.int .i64 (len : Nat)) (.int .i64 (64 : Nat)) (.bool false) (gt_i (m := ((len : Nat) : Int)) (n := ((64 : Nat) : Int)) (decide_eq_false (by omega))) rfl rfl) <|
    ok_nil
  clear h; intro β a w h
  refine sym_then ?_
  refine s_cf h ?_
  refine wp_skip ?_
  refine sym_then ?_
  refine sym_seq ?_
  refine St.rg h [(8, .inl (.slice aa len cap)), (9, .inl (.agg (rs 1))), (10, .inl (.agg (rs (nB f len * 1 % oL)))), (11, .inl (.agg (ck (kq (nB f len * 1 % oL))))), (3, .inl (.bool true))] [] [(0, ck (kq (nB f len * 1 % oL)))] [nn, nn, nn, nn, eS 0] ?_ ?_
  · exact oc (k_mv (.inl rfl) rfl) <|
    oc (k_bu #[(0, .int .u64 (1 : Nat))] (.agg (rs 1)) bdN1 rfl rfl) <|
    oc (k_cw 54 #[.slice aa len cap, .agg (rs 1)] (.agg (rs (nB f len * 1 % oL))) (fun w hw => times_L one_oL (by omega) w (hb.later hw.below)) rfl rfl) <|
    oc (k_ca 56 #[.agg (rs (nB f len * 1 % oL))] (.agg (ck (kq (nB f len * 1 % oL)))) (fun w => rkey_L _ w) rfl rfl) <|
    oc (k_st 0 0 (.agg (ck (kq (nB f len * 1 % oL)))) (c := ck (fun _ => 0)) (n := ck (kq (nB f len * 1 % oL))) (stK (F := (kq (nB f len * 1 % oL))) (c := ck (fun _ => 0)) 23 (ck_size _)) rfl rfl) <|
    oz (k_mv (.inr rfl) rfl) <|
    ok_nil
  clear h; intro β a w h
  refine sym_then ?_
  refine wp_ret ?_
  exact s_r2 (b := 0) (t0 := 23) (c := ck (kq (nB f len * 1 % oL))) h Tryz.results41 Tryz.underlying23 (fun hb => ⟨rfl, hb⟩) (by rw [ck_size]; kernel_rfl)
theorem residue_L {aa : Option Addr} {len cap : Nat} {f : Nat → Nat} (hl : len ≤ 64) (W0 : World) (hb : Bs W0 aa len f) : Calls Tryz.prog 41 #[.slice aa len cap] W0 fun e w' => e = .returned (.tuple #[.agg (ck (kq (nB f len % oL))), .bool true]) ∧ Below W0.heap.size W0 w' := by
  have := residue_f (cap := cap) hl W0 hb
  rwa [Nat.mul_one] at this

theorem oL_pos : 0 < oL := by decide +kernel
set_option maxHeartbeats 4000000 in
theorem times_w {f0 f1 f2 : Nat → Nat} (hf0 : ∀ i, f0 i < 256) (hf1 : ∀ i, f1 i < 256) (hf2 : ∀ i, f2 i < 256) (W0 : World) : Calls Tryz.prog 24 #[.agg (ck f0), .agg (ck f1), .agg (ck f2)] W0 fun e w' => e = .returned (.agg (ck (kq (sumL (nB f0 32 * (nB f1 32 * 1 % oL) % oL) (nB f2 32 * 1 % oL))))) ∧ Below W0.heap.size W0 w' := by
  refine s_in Tryz.func24 Tryz.ntmps24 rfl [.inl (.agg (ck f0)), .inl (.agg (ck f1)), .inl (.agg (ck f2))] ?_
  intro β a h
  refine sym_seq ?_
  refine St.rg h [(3, .inr (0, pt 0)), (4, .inr (1, pt 0)), (5, .inr (2, pt 0)), (6, .inr (3, pt 0))] [(ck f0, 23), (ck f1, 23), (ck f2, 23), (ck (fun _ => 0), 23)] [] [eN 0, eN 1, eN 2, eN 3] ?_ ?_
  · exact oc (k_bx 0 (.agg (ck f0)) (bxK (b := f0)) rfl rfl) <|
    oc (k_bx 1 (.agg (ck f1)) (bxK (b := f1)) rfl rfl) <|
    oc (k_bx 2 (.agg (ck f2)) (bxK (b := f2)) rfl rfl) <|
    oc (k_al 3 alK rfl rfl) <|
    ok_nil
  clear h; intro β a w h
  refine sym_then ?_
  refine sym_seq ?_
  refine St.rg h [(9, .inl (.agg (rs 1))), (7, .inr (4, pt 0))] [(rs 0, 87)] [(4, rs 1)] [nn, eN 4, eS 4] ?_ ?_
  · exact oc (k_bu #[(0, .int .u64 (1 : Nat))] (.agg (rs 1)) bdN1 rfl rfl) <|
    oc (k_al 4 alN rfl rfl) <|
    oc (k_st 4 0 (.agg (rs 1)) (c := rs 0) (n := rs 1) (stN' (n := 1) 87 rfl) rfl rfl) <|
    ok_nil
  clear h; intro β a w h
  refine sym_then ?_
  refine sym_seq ?_
  refine St.rg h [(10, .inr (0, sl 0 32 32)), (11, .inr (1, sl 0 32 32)), (12, .inl (.agg (rs 1))), (13, .inl (.agg (rs (nB f1 32 * 1 % oL)))), (14, .inl (.agg (rs (nB f0 32 * (nB f1 32 * 1 % oL) % oL)))), (8, .inr (5, pt 0))] [(rs 0, 87)] [(5, rs (nB f0 32 * (nB f1 32 * 1 % oL) % oL))] [nn, nn, eR 4, eR 1, eR 0, eN 5, eS 5] ?_ ?_
  · exact oc (k_sl 0 32 rfl rfl sl_k) <|
    oc (k_sl 1 32 rfl rfl sl_k) <|
    oc (k_ld 4 0 (.agg (rs 1)) (c := rs 1) (ldN (n := 1) 87) rfl rfl) <|
    oc (k_cb 54 (fun q => #[.slice (some ⟨q, 0, none⟩) 32 32, .agg (rs 1)]) (.agg (rs (nB f1 32 * 1 % oL))) 1 11 (fun w q _ hq => times_L one_oL (by omega) w (bs_key hf1 hq)) rfl rfl (by simp) (fm := sl 0 32 32) (t0 := 23)) <|
    oc (k_cb 54 (fun q => #[.slice (some ⟨q, 0, none⟩) 32 32, .agg (rs (nB f1 32 * 1 % oL))]) (.agg (rs (nB f0 32 * (nB f1 32 * 1 % oL) % oL))) 0 10 (fun w q _ hq => times_L (Nat.mod_lt _ oL_pos) (by omega) w (bs_key hf0 hq)) rfl rfl (by simp) (fm := sl 0 32 32) (t0 := 23)) <|
    oc (k_al 5 alN rfl rfl) <|
    oc (k_st 5 0 (.agg (rs (nB f0 32 * (nB f1 32 * 1 % oL) % oL))) (c := rs 0) (n := rs (nB f0 32 * (nB f1 32 * 1 % oL) % oL)) (stN' (n := (nB f0 32 * (nB f1 32 * 1 % oL) % oL)) 87 rfl) rfl rfl) <|
    ok_nil
  clear h; intro β a w h
  refine sym_then ?_
  refine sym_seq ?_
  refine St.rg h [(15, .inl (.agg (rs (nB f0 32 * (nB f1 32 * 1 % oL) % oL)))), (16, .inr (2, sl 0 32 32)), (17, .inl (.agg (rs 1))), (18, .inl (.agg (rs (nB f2 32 * 1 % oL)))), (19, .inl (.agg (rs (sumL (nB f0 32 * (nB f1 32 * 1 % oL) % oL) (nB f2 32 * 1 % oL))))), (20, .inl (.agg (ck (kq (sumL (nB f0 32 * (nB f1 32 * 1 % oL) % oL) (nB f2 32 * 1 % oL))))))] [] [(3, ck (kq (sumL (nB f0 32 * (nB f1 32 * 1 % oL) % oL) (nB f2 32 * 1 % oL))))] [eR 5, nn, eR 4, eR 2, nn, nn, eS 3] ?_ ?_
  · exact oc (k_ld 5 0 (.agg (rs (nB f0 32 * (nB f1 32 * 1 % oL) % oL))) (c := rs (nB f0 32 * (nB f1 32 * 1 % oL) % oL)) (ldN (n := (nB f0 32 * (nB f1 32 * 1 % oL) % oL)) 87) rfl rfl) <|
    oc (k_sl 2 32 rfl rfl sl_k) <|
    oc (k_ld 4 0 (.agg (rs 1)) (c := rs 1) (ldN (n := 1) 87) rfl rfl) <|
    oc (k_cb 54 (fun q => #[.slice (some ⟨q, 0, none⟩) 32 32, .agg (rs 1)]) (.agg (rs (nB f2 32 * 1 % oL))) 2 16 (fun w q _ hq => times_L one_oL (by omega) w (bs_key hf2 hq)) rfl rfl (by simp) (fm := sl 0 32 32) (t0 := 23)) <|
    oc (k_ca 55 #[.agg (rs (nB f0 32 * (nB f1 32 * 1 % oL) % oL)), .agg (rs (nB f2 32 * 1 % oL))] (.agg (rs (sumL (nB f0 32 * (nB f1 32 * 1 % oL) % oL) (nB f2 32 * 1 % oL)))) (fun w => plus_res (Nat.mod_lt _ oL_pos) (Nat.mod_lt _ oL_pos) w) rfl rfl) <|
    oc (k_ca 56 #[.agg (rs (sumL (nB f0 32 * (nB f1 32 * 1 % oL) % oL) (nB f2 32 * 1 % oL)))] (.agg (ck (kq (sumL (nB f0 32 * (nB f1 32 * 1 % oL) % oL) (nB f2 32 * 1 % oL))))) (fun w => rkey_L _ w) rfl rfl) <|
    oc (k_st 3 0 (.agg (ck (kq (sumL (nB f0 32 * (nB f1 32 * 1 % oL) % oL) (nB f2 32 * 1 % oL))))) (c := ck (fun _ => 0)) (n := ck (kq (sumL (nB f0 32 * (nB f1 32 * 1 % oL) % oL) (nB f2 32 * 1 % oL)))) (stK (F := (kq (sumL (nB f0 32 * (nB f1 32 * 1 % oL) % oL) (nB f2 32 * 1 % oL)))) (c := ck (fun _ => 0)) 23 (ck_size _)) rfl rfl) <|
    ok_nil
  clear h; intro β a w h
  refine sym_then ?_
  refine wp_ret ?_
  exact s_rc (b := 3) (t0 := 23) (c := ck (kq (sumL (nB f0 32 * (nB f1 32 * 1 % oL) % oL) (nB f2 32 * 1 % oL)))) h Tryz.results24 Tryz.underlying23 (fun hb => ⟨rfl, hb⟩) (by rw [ck_size]; kernel_rfl)
theorem times_K {f0 f1 f2 : Nat → Nat} (hf0 : ∀ i, f0 i < 256) (hf1 : ∀ i, f1 i < 256) (hf2 : ∀ i, f2 i < 256) (W0 : World) : Calls Tryz.prog 24 #[.agg (ck f0), .agg (ck f1), .agg (ck f2)] W0 fun e w' => e = .returned (.agg (ck (kq ((nB f0 32 * nB f1 32 + nB f2 32) % oL)))) ∧ Below W0.heap.size W0 w' := by
  have h := times_w hf0 hf1 hf2 W0
  have e : sumL (nB f0 32 * (nB f1 32 * 1 % oL) % oL) (nB f2 32 * 1 % oL) = (nB f0 32 * nB f1 32 + nB f2 32) % oL := by
    unfold sumL
    rw [Nat.mul_one, Nat.mul_one, Nat.mul_mod_mod, ← Nat.add_mod]
  rwa [e] at h

set_option maxHeartbeats 4000000 in
theorem least_t {f : Nat → Nat} (hf : ∀ i, f i < 256) (hk : ∀ i, i < 32 → kq (nB f 32 % oL) i = f i) (W0 : World) : Calls Tryz.prog 17 #[.agg (ck f)] W0 fun e w' => e = .returned (.bool true) ∧ Below W0.heap.size W0 w' := by
  refine s_in Tryz.func17 Tryz.ntmps17 rfl [.inl (.agg (ck f))] ?_
  intro β a h
  refine sym_seq ?_
  refine St.rg h [(1, .inr (0, pt 0)), (2, .inl (.bool false))] [(ck f, 23)] [] [eN 0] ?_ ?_
  · exact oc (k_bx 0 (.agg (ck f)) (bxK (b := f)) rfl rfl) <|
    oz (k_mv (.inr rfl) rfl) <|
    ok_nil
  clear h; intro β a w h
  refine sym_then ?_
  refine sym_seq ?_
  refine St.rg h [(6, .inr (0, sl 0 32 32)), (7, .inl (.tuple #[.agg (ck (kq (nB f 32 % oL))), .bool true])), (5, .inl (.tuple #[.agg (ck (kq (nB f 32 % oL))), .bool true])), (8, .inl (.agg (ck (kq (nB f 32 % oL))))), (9, .inl (.bool true)), (3, .inr (1, pt 0)), (4, .inl (.bool true))] [(ck (fun _ => 0), 23)] [(1, ck (kq (nB f 32 % oL)))] [nn, eR 0, nn, nn, nn, eN 1, eS 1] ?_ ?_
  · exact oc (k_sl 0 32 rfl rfl sl_k) <|
    oc (k_cb 41 (fun q => #[.slice (some ⟨q, 0, none⟩) 32 32]) (.tuple #[.agg (ck (kq (nB f 32 % oL))), .bool true]) 0 6 (fun w q _ hq => residue_L (by omega) w (bs_key hf hq)) rfl rfl (by simp) (fm := sl 0 32 32) (t0 := 23)) <|
    oc (k_mv (.inl rfl) rfl) <|
    oc (k_ex (.tuple #[.agg (ck (kq (nB f 32 % oL))), .bool true]) (.agg (ck (kq (nB f 32 % oL)))) rfl rfl) <|
    oc (k_ex (.tuple #[.agg (ck (kq (nB f 32 % oL))), .bool true]) (.bool true) rfl rfl) <|
    oc (k_al 1 alK rfl rfl) <|
    oc (k_st 1 0 (.agg (ck (kq (nB f 32 % oL)))) (c := ck (fun _ => 0)) (n := ck (kq (nB f 32 % oL))) (stK (F := (kq (nB f 32 % oL))) (c := ck (fun _ => 0)) 23 (ck_size _)) rfl rfl) <|
    oz (k_mv (.inr rfl) rfl) <|
    ok_nil
  clear h; intro β a w h
  refine sym_then ?_
  refine sym_seq ?_
  refine St.r0 h [(10, .inl (.agg (ck (kq (nB f 32 % oL))))), (11, .inl (.agg (ck f))), (12, .inl (.bool true)), (2, .inl (.bool true))] [eR 1, eR 0] ?_ ?_
  · exact oc (k_ld 1 0 (.agg (ck (kq (nB f 32 % oL)))) (c := ck (kq (nB f 32 % oL))) (ldK (b := (kq (nB f 32 % oL))) 23) rfl rfl) <|
    oc (k_ld 0 0 (.agg (ck f)) (c := ck f) (ldK (b := f) 23) rfl rfl) <|
    oz (k_bi (.agg (ck (kq (nB f 32 % oL)))) (.agg (ck f)) (.bool true) (eqK_t (F := (kq (nB f 32 % oL))) (G := f) hk) rfl rfl) <|
    oz (k_mv (.inr rfl) rfl) <|
    ok_nil
  clear h; intro β a w h
  refine sym_then ?_
  refine wp_ret ?_
  exact s_rt h Tryz.results17 (fun hb => ⟨rfl, hb⟩)

end Go.Proofs.YtacokkedomjgpaaGreatDoor

namespace Go.Proofs.YtacokkedomjgpaaGreatDoor
theorem closure_e {R : Type} [Lean.Grind.CommRing R] (d x1 y1 x2 y2 : R) (h1 : y1 * y1 - x1 * x1 = 1 + d * (x1 * x1 * y1 * y1)) (h2 : y2 * y2 - x2 * x2 = 1 + d * (x2 * x2 * y2 * y2)) :
   (y1 * y2 + x1 * x2)^2 * (1 + d * (x1 * x2 * y1 * y2))^2 - (x1 * y2 + y1 * x2)^2 * (1 - d * (x1 * x2 * y1 * y2))^2 = (1 - d * (x1 * x2 * y1 * y2))^2 * (1 + d * (x1 * x2 * y1 * y2))^2 + d * ((x1 * y2 + y1 * x2)^2 * (y1 * y2 + x1 * x2)^2) := by grind
set_option maxHeartbeats 40000000 in
theorem assoc_x {R : Type} [Lean.Grind.CommRing R] (d x1 y1 x2 y2 x3 y3 : R) (h1 : y1 * y1 - x1 * x1 = 1 + d * (x1 * x1 * y1 * y1)) (h2 : y2 * y2 - x2 * x2 = 1 + d * (x2 * x2 * y2 * y2)) (h3 : y3 * y3 - x3 * x3 = 1 + d * (x3 * x3 * y3 * y3)) :
   ((x1 * y2 + y1 * x2) * (1 - d * (x1 * x2 * y1 * y2)) * y3 + (y1 * y2 + x1 * x2) * (1 + d * (x1 * x2 * y1 * y2)) * x3) * ((1 + d * (x2 * x3 * y2 * y3)) * (1 - d * (x2 * x3 * y2 * y3)) + d * ((x2 * y3 + y2 * x3) * (y2 * y3 + x2 * x3)) * (x1 * y1))
   = (x1 * (y2 * y3 + x2 * x3) * (1 + d * (x2 * x3 * y2 * y3)) + y1 * (x2 * y3 + y2 * x3) * (1 - d * (x2 * x3 * y2 * y3))) * ((1 + d * (x1 * x2 * y1 * y2)) * (1 - d * (x1 * x2 * y1 * y2)) + d * ((x1 * y2 + y1 * x2) * (y1 * y2 + x1 * x2)) * (x3 * y3)) := by
  grind (ringSteps := 1000000)
set_option maxHeartbeats 40000000 in
theorem assoc_y {R : Type} [Lean.Grind.CommRing R] (d x1 y1 x2 y2 x3 y3 : R) (h1 : y1 * y1 - x1 * x1 = 1 + d * (x1 * x1 * y1 * y1)) (h2 : y2 * y2 - x2 * x2 = 1 + d * (x2 * x2 * y2 * y2)) (h3 : y3 * y3 - x3 * x3 = 1 + d * (x3 * x3 * y3 * y3)) :
   ((y1 * y2 + x1 * x2) * (1 + d * (x1 * x2 * y1 * y2)) * y3 + (x1 * y2 + y1 * x2) * (1 - d * (x1 * x2 * y1 * y2)) * x3) * ((1 + d * (x2 * x3 * y2 * y3)) * (1 - d * (x2 * x3 * y2 * y3)) - d * ((x2 * y3 + y2 * x3) * (y2 * y3 + x2 * x3)) * (x1 * y1))
   = (y1 * (y2 * y3 + x2 * x3) * (1 + d * (x2 * x3 * y2 * y3)) + x1 * (x2 * y3 + y2 * x3) * (1 - d * (x2 * x3 * y2 * y3))) * ((1 + d * (x1 * x2 * y1 * y2)) * (1 - d * (x1 * x2 * y1 * y2)) - d * ((x1 * y2 + y1 * x2) * (y1 * y2 + x1 * x2)) * (x3 * y3)) := by
  grind (ringSteps := 1000000)
theorem den_e {R : Type} [Lean.Grind.CommRing R] (d x1 y1 x2 y2 i e : R) (hi : i * i = -1) (he : e * e = 1) (h1 : y1 * y1 - x1 * x1 = 1 + d * (x1 * x1 * y1 * y1)) (h2 : y2 * y2 - x2 * x2 = 1 + d * (x2 * x2 * y2 * y2)) (h : d * (x1 * x2 * y1 * y2) = e) :
   d * (x1 * y1 * (y2 + i * x2)) ^ 2 = (y1 + i * e * x1) ^ 2 := by grind
end Go.Proofs.YtacokkedomjgpaaGreatDoor

namespace Go.Proofs.YtacokkedomjgpaaGreatDoor
open Go.RowKit

set_option maxHeartbeats 4000000 in
theorem plus_q {x1 b1 x2 b2 X Y Z T : Nat} (hx1 : x1 < pp) (hb1 : b1 < pp) (hx2 : x2 < pp) (hb2 : b2 < pp) (hX : X < pp) (hY : Y < pp) (hZ : Z < pp) (cS : ∀ w, Calls Tryz.prog 48 #[.agg (ces [dN]), .agg (ces [x1, ad b1 1, 1, mu x1 (ad b1 1)]), .agg (ces [x2, ad b2 1, 1, mu x2 (ad b2 1)])] w fun e w' => e = .returned (.agg (ces [X, Y, Z, T])) ∧ Below w.heap.size w w') (W0 : World) : Calls Tryz.prog 50 #[.agg (ces [x1, b1]), .agg (ces [x2, b2])] W0 fun e w' => e = .returned (.agg (ces [mu X (mu 1 (inv Z)), sb (mu Y (mu 1 (inv Z))) 1])) ∧ Below W0.heap.size W0 w' := by
  refine s_in Tryz.func50 Tryz.ntmps50 rfl [.inl (.agg (ces [x1, b1])), .inl (.agg (ces [x2, b2]))] ?_
  intro β a h
  refine sym_seq ?_
  refine St.rg h [(2, .inr (0, pt 0)), (3, .inr (1, pt 0)), (4, .inr (2, pt 0))] [(ces [x1, b1], 48), (ces [x2, b2], 48), (ces [0, 0], 48)] [] [eN 0, eN 1, eN 2] ?_ ?_
  · exact oc (k_bx 0 (.agg (ces [x1, b1])) (bxP (a := x1) (b := b1)) rfl rfl) <|
    oc (k_bx 1 (.agg (ces [x2, b2])) (bxP (a := x2) (b := b2)) rfl rfl) <|
    oc (k_al 2 alP rfl rfl) <|
    ok_nil
  clear h; intro β a w h
  refine sym_then ?_
  refine sym_seq ?_
  refine St.r0 h [(6, .inl (.agg (ces [dN]))), (7, .inl (.func (.func 48) #[.agg (ces [dN])] #[])), (5, .inl (.func (.func 48) #[.agg (ces [dN])] #[]))] [] ?_ ?_
  · exact oz (k_ca 47 #[] (.agg (ces [dN])) law_r rfl rfl) <|
    oz (k_mf #[.agg (ces [dN])] rfl rfl) <|
    oz (k_mv (.inr rfl) rfl) <|
    ok_nil
  clear h; intro β a w h
  refine sym_then ?_
  refine sym_seq ?_
  refine St.rg h [(8, .inl (.func (.func 48) #[.agg (ces [dN])] #[])), (9, .inl (.agg (ces [x1, b1]))), (10, .inl (.agg (ces [x1, (ad b1 1), 1, (mu x1 (ad b1 1))]))), (11, .inl (.agg (ces [x2, b2]))), (12, .inl (.agg (ces [x2, (ad b2 1), 1, (mu x2 (ad b2 1))]))), (13, .inl (.agg (ces [X, Y, Z, T]))), (14, .inl (.agg (ces [(mu X (mu 1 (inv Z))), (sb (mu Y (mu 1 (inv Z))) 1)])))] [] [(2, ces [(mu X (mu 1 (inv Z))), (sb (mu Y (mu 1 (inv Z))) 1)])] [nn, eR 0, nn, eR 1, nn, nn, nn, eS 2] ?_ ?_
  · exact oc (k_mv (.inl rfl) rfl) <|
    oc (k_ld 0 0 (.agg (ces [x1, b1])) (c := ces [x1, b1]) (ldP (a := x1) (b := b1) 48) rfl rfl) <|
    oc (k_ca 46 #[.agg (ces [x1, b1])] (.agg (ces [x1, (ad b1 1), 1, (mu x1 (ad b1 1))])) (fun w => shared_r hx1 hb1 w) rfl rfl) <|
    oc (k_ld 1 0 (.agg (ces [x2, b2])) (c := ces [x2, b2]) (ldP (a := x2) (b := b2) 48) rfl rfl) <|
    oc (k_ca 46 #[.agg (ces [x2, b2])] (.agg (ces [x2, (ad b2 1), 1, (mu x2 (ad b2 1))])) (fun w => shared_r hx2 hb2 w) rfl rfl) <|
    oc (k_cv #[.agg (ces [dN])] #[.agg (ces [x1, (ad b1 1), 1, (mu x1 (ad b1 1))]), .agg (ces [x2, (ad b2 1), 1, (mu x2 (ad b2 1))])] #[.agg (ces [dN]), .agg (ces [x1, (ad b1 1), 1, (mu x1 (ad b1 1))]), .agg (ces [x2, (ad b2 1), 1, (mu x2 (ad b2 1))])] (.agg (ces [X, Y, Z, T])) cS rfl rfl) <|
    oc (k_ca 49 #[.agg (ces [X, Y, Z, T])] (.agg (ces [(mu X (mu 1 (inv Z))), (sb (mu Y (mu 1 (inv Z))) 1)])) (fun w => point_r hX hY hZ w) rfl rfl) <|
    oc (k_st 2 0 (.agg (ces [(mu X (mu 1 (inv Z))), (sb (mu Y (mu 1 (inv Z))) 1)])) (c := ces [0, 0]) (n := ces [(mu X (mu 1 (inv Z))), (sb (mu Y (mu 1 (inv Z))) 1)]) (stP (a := (mu X (mu 1 (inv Z)))) (b := (sb (mu Y (mu 1 (inv Z))) 1)) (c := ces [0, 0]) 48 (by rw [ces_size]; rfl)) rfl rfl) <|
    ok_nil
  clear h; intro β a w h
  refine sym_then ?_
  refine wp_ret ?_
  exact s_rc (b := 2) (t0 := 48) (c := ces [(mu X (mu 1 (inv Z))), (sb (mu Y (mu 1 (inv Z))) 1)]) h Tryz.results50 Tryz.underlying48 (fun hb => ⟨rfl, hb⟩) (by rw [ces_size]; kernel_rfl)

def pX (x1 b1 x2 b2 : Nat) : Nat := (mu (sb (mu (ad (ad b1 1) x1) (ad (ad b2 1) x2)) (mu (sb (ad b1 1) x1) (sb (ad b2 1) x2))) (sb (ad (mu 1 1) (mu 1 1)) (ad (mu (mu (mu x1 (ad b1 1)) (mu x2 (ad b2 1))) dN) (mu (mu (mu x1 (ad b1 1)) (mu x2 (ad b2 1))) dN))))
def pY (x1 b1 x2 b2 : Nat) : Nat := (mu (ad (mu (ad (ad b1 1) x1) (ad (ad b2 1) x2)) (mu (sb (ad b1 1) x1) (sb (ad b2 1) x2))) (ad (ad (mu 1 1) (mu 1 1)) (ad (mu (mu (mu x1 (ad b1 1)) (mu x2 (ad b2 1))) dN) (mu (mu (mu x1 (ad b1 1)) (mu x2 (ad b2 1))) dN))))
def pZ (x1 b1 x2 b2 : Nat) : Nat := (mu (ad (ad (mu 1 1) (mu 1 1)) (ad (mu (mu (mu x1 (ad b1 1)) (mu x2 (ad b2 1))) dN) (mu (mu (mu x1 (ad b1 1)) (mu x2 (ad b2 1))) dN))) (sb (ad (mu 1 1) (mu 1 1)) (ad (mu (mu (mu x1 (ad b1 1)) (mu x2 (ad b2 1))) dN) (mu (mu (mu x1 (ad b1 1)) (mu x2 (ad b2 1))) dN))))
def sx (x1 b1 x2 b2 : Nat) : Nat := mu (pX x1 b1 x2 b2) (mu 1 (inv (pZ x1 b1 x2 b2)))
def sy (x1 b1 x2 b2 : Nat) : Nat := mu (pY x1 b1 x2 b2) (mu 1 (inv (pZ x1 b1 x2 b2)))
theorem plus_p {x1 b1 x2 b2 : Nat} (hx1 : x1 < pp) (hb1 : b1 < pp) (hx2 : x2 < pp) (hb2 : b2 < pp) (W0 : World) : Calls Tryz.prog 50 #[.agg (ces [x1, b1]), .agg (ces [x2, b2])] W0 fun e w' => e = .returned (.agg (ces [sx x1 b1 x2 b2, sb (sy x1 b1 x2 b2) 1])) ∧ Below W0.heap.size W0 w' :=
  plus_q (X := pX x1 b1 x2 b2) (Y := pY x1 b1 x2 b2) (Z := pZ x1 b1 x2 b2) (T := (mu (sb (mu (ad (ad b1 1) x1) (ad (ad b2 1) x2)) (mu (sb (ad b1 1) x1) (sb (ad b2 1) x2))) (ad (mu (ad (ad b1 1) x1) (ad (ad b2 1) x2)) (mu (sb (ad b1 1) x1) (sb (ad b2 1) x2))))) hx1 hb1 hx2 hb2 (mu_lt _ _) (mu_lt _ _) (mu_lt _ _) (fun w => sum_r dN_lt hx1 (ad_lt _ _) one_ltp (mu_lt _ _) hx2 (ad_lt _ _) one_ltp (mu_lt _ _) w) W0

set_option maxHeartbeats 4000000 in
theorem minus_p {x1 b1 x2 b2 : Nat} (hx1 : x1 < pp) (hb1 : b1 < pp) (hx2 : x2 < pp) (hb2 : b2 < pp) (W0 : World) : Calls Tryz.prog 21 #[.agg (ces [x1, b1]), .agg (ces [x2, b2])] W0 fun e w' => e = .returned (.agg (ces [sx x1 b1 (sb 0 x2) b2, sb (sy x1 b1 (sb 0 x2) b2) 1])) ∧ Below W0.heap.size W0 w' := by
  refine s_in Tryz.func21 Tryz.ntmps21 rfl [.inl (.agg (ces [x1, b1])), .inl (.agg (ces [x2, b2]))] ?_
  intro β a h
  refine sym_seq ?_
  refine St.rg h [(2, .inr (0, pt 0)), (3, .inr (1, pt 0)), (4, .inr (2, pt 0))] [(ces [x1, b1], 48), (ces [x2, b2], 48), (ces [0, 0], 48)] [] [eN 0, eN 1, eN 2] ?_ ?_
  · exact oc (k_bx 0 (.agg (ces [x1, b1])) (bxP (a := x1) (b := b1)) rfl rfl) <|
    oc (k_bx 1 (.agg (ces [x2, b2])) (bxP (a := x2) (b := b2)) rfl rfl) <|
    oc (k_al 2 alP rfl rfl) <|
    ok_nil
  clear h; intro β a w h
  refine sym_then ?_
  refine sym_seq ?_
  refine St.rg h [(5, .inl (.agg (ces [x1, b1]))), (6, .inl (el (dig 0))), (7, .inr (1, pt 0)), (8, .inl (el (dig x2))), (9, .inl (el (dig (sb 0 x2)))), (10, .inr (1, pt 4)), (11, .inl (el (dig b2))), (12, .inl (.agg (ces [(sb 0 x2), b2]))), (13, .inl (.agg (ces [(sx x1 b1 (sb 0 x2) b2), (sb (sy x1 b1 (sb 0 x2) b2) 1)])))] [] [(2, ces [(sx x1 b1 (sb 0 x2) b2), (sb (sy x1 b1 (sb 0 x2) b2) 1)])] [eR 0, nn, nn, eR 1, nn, nn, eR 1, nn, nn, eS 2] ?_ ?_
  · exact oc (k_ld 0 0 (.agg (ces [x1, b1])) (c := ces [x1, b1]) (ldP (a := x1) (b := b1) 48) rfl rfl) <|
    oc (k_bu #[] (el (dig 0)) bdE rfl rfl) <|
    oc (k_fa 1 0 0 rfl rfl) <|
    oc (k_ld 1 0 (el (dig x2)) (c := ces [x2, b2]) (ld_ces (l := [x2, b2]) (k := 0) (n := x2) 48 rfl) rfl rfl) <|
    oc (k_ca 39 #[el (dig 0), el (dig x2)] (el (dig (sb 0 x2))) (fun w => minus_m (by decide +kernel) hx2 w) rfl rfl) <|
    oc (k_fa 1 0 4 rfl rfl) <|
    oc (k_ld 1 4 (el (dig b2)) (c := ces [x2, b2]) (ld_ces (l := [x2, b2]) (k := 1) (n := b2) 48 rfl) rfl rfl) <|
    oc (k_bu #[(0, el (dig (sb 0 x2))), (1, el (dig b2))] (.agg (ces [(sb 0 x2), b2])) (bdP (a := (sb 0 x2)) (b := b2)) rfl rfl) <|
    oc (k_ca 50 #[.agg (ces [x1, b1]), .agg (ces [(sb 0 x2), b2])] (.agg (ces [(sx x1 b1 (sb 0 x2) b2), (sb (sy x1 b1 (sb 0 x2) b2) 1)])) (fun w => plus_p hx1 hb1 (sb_lt _ _) hb2 w) rfl rfl) <|
    oc (k_st 2 0 (.agg (ces [(sx x1 b1 (sb 0 x2) b2), (sb (sy x1 b1 (sb 0 x2) b2) 1)])) (c := ces [0, 0]) (n := ces [(sx x1 b1 (sb 0 x2) b2), (sb (sy x1 b1 (sb 0 x2) b2) 1)]) (stP (a := (sx x1 b1 (sb 0 x2) b2)) (b := (sb (sy x1 b1 (sb 0 x2) b2) 1)) (c := ces [0, 0]) 48 (by rw [ces_size]; rfl)) rfl rfl) <|
    ok_nil
  clear h; intro β a w h
  refine sym_then ?_
  refine wp_ret ?_
  exact s_rc (b := 2) (t0 := 48) (c := ces [(sx x1 b1 (sb 0 x2) b2), (sb (sy x1 b1 (sb 0 x2) b2) 1)]) h Tryz.results21 Tryz.underlying48 (fun hb => ⟨rfl, hb⟩) (by rw [ces_size]; kernel_rfl)

set_option maxHeartbeats 4000000 in
theorem gen_r (W0 : World) : Calls Tryz.prog 19 #[] W0 fun e w' => e = .returned (.agg (ces [gX, sb (mu 4 (inv 5)) 1])) ∧ Below W0.heap.size W0 w' := by
  refine s_in Tryz.func19 Tryz.ntmps19 rfl [] ?_
  intro β a h
  refine sym_seq ?_
  refine St.rg h [(0, .inr (0, pt 0))] [(ces [0, 0], 48)] [] [eN 0] ?_ ?_
  · exact oc (k_al 0 alP rfl rfl) <|
    ok_nil
  clear h; intro β a w h
  refine sym_then ?_
  refine sym_seq ?_
  refine St.rg h [(2, .inl (.agg (ck (kl [26, 213, 37, 143, 96, 45, 86, 201, 178, 167, 37, 149, 96, 199, 44, 105, 92, 220, 214, 253, 49, 226, 164, 192, 254, 83, 110, 205, 211, 54, 105, 33])))), (3, .inl (el (dig gX))), (1, .inr (1, pt 0))] [(ce 0, 46)] [(1, ce gX)] [nn, nn, eN 1, eS 1] ?_ ?_
  · exact oc (k_bu #[(0, .int .u8 (26 : Nat)), (1, .int .u8 (213 : Nat)), (2, .int .u8 (37 : Nat)), (3, .int .u8 (143 : Nat)), (4, .int .u8 (96 : Nat)), (5, .int .u8 (45 : Nat)), (6, .int .u8 (86 : Nat)), (7, .int .u8 (201 : Nat)), (8, .int .u8 (178 : Nat)), (9, .int .u8 (167 : Nat)), (10, .int .u8 (37 : Nat)), (11, .int .u8 (149 : Nat)), (12, .int .u8 (96 : Nat)), (13, .int .u8 (199 : Nat)), (14, .int .u8 (44 : Nat)), (15, .int .u8 (105 : Nat)), (16, .int .u8 (92 : Nat)), (17, .int .u8 (220 : Nat)), (18, .int .u8 (214 : Nat)), (19, .int .u8 (253 : Nat)), (20, .int .u8 (49 : Nat)), (21, .int .u8 (226 : Nat)), (22, .int .u8 (164 : Nat)), (23, .int .u8 (192 : Nat)), (24, .int .u8 (254 : Nat)), (25, .int .u8 (83 : Nat)), (26, .int .u8 (110 : Nat)), (27, .int .u8 (205 : Nat)), (28, .int .u8 (211 : Nat)), (29, .int .u8 (54 : Nat)), (30, .int .u8 (105 : Nat)), (31, .int .u8 (33 : Nat))] (.agg (ck (kl [26, 213, 37, 143, 96, 45, 86, 201, 178, 167, 37, 149, 96, 199, 44, 105, 92, 220, 214, 253, 49, 226, 164, 192, 254, 83, 110, 205, 211, 54, 105, 33]))) (fun w => by kernel_rfl) rfl rfl) <|
    oc (k_ca 35 #[.agg (ck (kl [26, 213, 37, 143, 96, 45, 86, 201, 178, 167, 37, 149, 96, 199, 44, 105, 92, 220, 214, 253, 49, 226, 164, 192, 254, 83, 110, 205, 211, 54, 105, 33]))] (el (dig gX)) (fun w => by have := of_k (b := (kl [26, 213, 37, 143, 96, 45, 86, 201, 178, 167, 37, 149, 96, 199, 44, 105, 92, 220, 214, 253, 49, 226, 164, 192, 254, 83, 110, 205, 211, 54, 105, 33])) (kl_lt (by decide)) w; rwa [show ofb (kl [26, 213, 37, 143, 96, 45, 86, 201, 178, 167, 37, 149, 96, 199, 44, 105, 92, 220, 214, 253, 49, 226, 164, 192, 254, 83, 110, 205, 211, 54, 105, 33]) = gX by decide +kernel] at this) rfl rfl) <|
    oc (k_al 1 alE rfl rfl) <|
    oc (k_st 1 0 (el (dig gX)) (c := ce 0) (n := ce gX) (stE (n := gX) (c := ce 0) 46 (ce_size _)) rfl rfl) <|
    ok_nil
  clear h; intro β a w h
  refine sym_then ?_
  refine sym_seq ?_
  refine St.rg h [(4, .inl (el (dig gX))), (5, .inl (el (dig 4))), (6, .inl (el (dig 5))), (7, .inl (el (dig (mu 4 (inv 5))))), (8, .inl (.agg (ces [gX, (sb (mu 4 (inv 5)) 1)])))] [] [(0, ces [gX, (sb (mu 4 (inv 5)) 1)])] [eR 1, nn, nn, nn, nn, eS 0] ?_ ?_
  · exact oc (k_ld 1 0 (el (dig gX)) (c := ce gX) (ldE (n := gX) 46) rfl rfl) <|
    oc (k_ca 43 #[.int .i64 (4 : Nat)] (el (dig 4)) (fun w => int_m (m := 4) (by decide) w) rfl rfl) <|
    oc (k_ca 43 #[.int .i64 (5 : Nat)] (el (dig 5)) (fun w => int_m (m := 5) (by decide) w) rfl rfl) <|
    oc (k_ca 44 #[el (dig 4), el (dig 5)] (el (dig (mu 4 (inv 5)))) (fun w => over_m four_ltp five_ltp w) rfl rfl) <|
    oc (k_ca 40 #[el (dig gX), el (dig (mu 4 (inv 5)))] (.agg (ces [gX, (sb (mu 4 (inv 5)) 1)])) (fun w => at_r (mu_lt _ _) w) rfl rfl) <|
    oc (k_st 0 0 (.agg (ces [gX, (sb (mu 4 (inv 5)) 1)])) (c := ces [0, 0]) (n := ces [gX, (sb (mu 4 (inv 5)) 1)]) (stP (a := gX) (b := (sb (mu 4 (inv 5)) 1)) (c := ces [0, 0]) 48 (by rw [ces_size]; rfl)) rfl rfl) <|
    ok_nil
  clear h; intro β a w h
  refine sym_then ?_
  refine wp_ret ?_
  exact s_rc (b := 0) (t0 := 48) (c := ces [gX, (sb (mu 4 (inv 5)) 1)]) h Tryz.results19 Tryz.underlying48 (fun hb => ⟨rfl, hb⟩) (by rw [ces_size]; kernel_rfl)
end Go.Proofs.YtacokkedomjgpaaGreatDoor

namespace Go.Proofs.YtacokkedomjgpaaGreatDoor
open Go.RowKit

set_option maxRecDepth 100000 in
theorem eqK_run (F G : Nat → Nat) (w : World) : ∃ b : Bool, (b = true ↔ ∀ i, i < 32 → F i = G i) ∧ (Op.equalIn 10000 23 (.agg (ck F)) (.agg (ck G))).run Tryz.prog w = .ok b w := by
  refine ⟨_, ?_, eq_ints (P := Tryz.prog) (t := 23) (e := 5) (n := 32) (k := .u8) (k' := .u8) Tryz.underlying23 (inf := _) rfl (by kernel_rfl) Tryz.underlying5 (fun _ => by kernel_rfl) (ck F) (ck G) (fun i => (F i : Int)) (fun i => (G i : Int)) (fun i hi => arr_get _ _ _ hi) (fun i hi => arr_get _ _ _ hi) w⟩
  rw [decide_eq_true_eq]
  constructor <;> intro hh i hi <;> have := hh i hi <;> omega
section
variable {x u : Operand}
theorem neK_f {F G : Nat → Nat} (h : ∀ i, i < 32 → F i = G i) (w : World) : (do eqGuard .neq 23 x u (.agg (ck F)) (.agg (ck G)); binOp .neq 23 (.agg (ck F)) (.agg (ck G))).run Tryz.prog w = .ok (.bool false) w := by
  obtain ⟨b, hb, h1⟩ := eqK_run F G w
  obtain rfl : b = true := hb.2 h
  simp [eqGuard, binOp, go_sem, Op.equal, Op.maxDepth, h1]
end
theorem byt_top {n : Nat} (hn : n < pp) : byt (dig n) 31 < 128 := by
  show dig n 3 / 256 ^ 7 % 256 < 128
  have h : dig n 3 = n / 6277101735386680763835789423207666416102355444464034512896 % 18446744073709551616 := rfl
  rw [h]
  have hp : pp = 57896044618658097711785492504343953926634992332820282019728792003956564819949 := rfl
  rw [hp] at hn
  have h2 : n / 6277101735386680763835789423207666416102355444464034512896 < 9223372036854775808 := by omega
  generalize n / 6277101735386680763835789423207666416102355444464034512896 = q at *
  rw [Nat.mod_eq_of_lt (by omega)]
  have h3 : q / 256 ^ 7 < 128 := by
    rw [Nat.div_lt_iff_lt_mul (by decide)]
    exact h2
  omega
end Go.Proofs.YtacokkedomjgpaaGreatDoor

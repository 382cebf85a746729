/- CT5, CBA, CN9, CN10, CT6, CTV, KT: laid together. -/
import Derived.Lib.LaidU8
import Derived.Lib.LaidTab
import Derived.LaidLaws
import Derived.PinnedBridge
import Derived.Lay
import Derived.LaidMore
import Derived.WalkKit
import Derived.ProofKit
import Derived.OpenShut
import Derived.ChangeOld
import Derived.Test.YtbemaloaobeblaaGreatDoorG7
import Derived.Test.YtbemaloaobeblaaGreatDoorG6
import Derived.Test.YtbemaloaobeblaaGreatDoorG3
import Derived.Test.YtbemaloaobeblaaGreatDoorG2
import Derived.Test.YtbemaloaobeblaaGreatDoorRows
namespace Go.Proofs.YtbemaloaobeblaaGreatDoor
open Go.RowKit Go.Shelf

theorem RwA.recap {F : Nat → Prop} {w : World} {e : TypeId} {z : Nat} {a : Option Addr} {n c c' : Nat} {cs : List (List Value)} (h : RwA F w e z (.slice a n c) cs) : RwA F w e z (.slice a n c') cs := by
  obtain ⟨h1, ⟨b, cap, hv, h2⟩ | ⟨b, o, cap, cur, fz, hv, h2⟩⟩ := h
  · cases hv; exact ⟨h1, .inl ⟨_, _, rfl, h2⟩⟩
  · cases hv; exact ⟨h1, .inr ⟨b, o, _, cur, fz, rfl, h2⟩⟩
theorem va_cap {F : Nat → Prop} {w : World} {t : T} {k ki : Int} {s : List UInt8} {a b : Option Addr} {n m ca cb : Nat} (h : VA F w t [.int .i64 k, .int .i64 ki, .string (st s), .slice a n ca, .slice b m cb]) : VA F w t [.int .i64 k, .int .i64 ki, .string (st s), .slice a n n, .slice b m m] := by
  generalize hc : [Value.int .i64 k, .int .i64 ki, .string (st s), .slice a n ca, .slice b m cb] = c at h
  cases h with
  | mk r1 r2 e1 e2 hl hp1 hp2 =>
    simp only [List.cons.injEq, and_true] at hc
    obtain ⟨g1, g2, g3, g4, g5⟩ := hc
    rw [g1, g2, g3]
    subst g4 g5
    exact .mk r1.recap r2.recap e1 e2 hl hp1 hp2
theorem clip_V5 {a : Option Addr} {n cap : Nat} {w : World} (h : n ≤ cap ∧ cap ≤ 9223372036854775807) (hz : a = none → n = 0) : Calls Tryz.prog 68 #[.slice a n cap] w fun e w' => e = .returned (.slice a n n) ∧ w' = w := by
  obtain ⟨h1, h2⟩ := h
  have h3 : n ≤ 9223372036854775807 := by omega
  cases a with
  | none =>
    obtain rfl := hz rfl
    go_enter Tryz.func68, Tryz.ntmps68
    go_wp2 <;> go_ret <;> exact ⟨rfl, rfl⟩
  | some a =>
    go_enter Tryz.func68, Tryz.ntmps68
    go_wp2 <;> go_ret <;> exact ⟨rfl, rfl⟩
theorem clip_P5 {a : Option Addr} {n cap : Nat} {w : World} (h : n ≤ cap ∧ cap ≤ 9223372036854775807) (hz : a = none → n = 0) : Calls Tryz.prog 69 #[.slice a n cap] w fun e w' => e = .returned (.slice a n n) ∧ w' = w := by
  obtain ⟨h1, h2⟩ := h
  have h3 : n ≤ 9223372036854775807 := by omega
  cases a with
  | none =>
    obtain rfl := hz rfl
    go_enter Tryz.func69, Tryz.ntmps69
    go_wp2 <;> go_ret <;> exact ⟨rfl, rfl⟩
  | some a =>
    go_enter Tryz.func69, Tryz.ntmps69
    go_wp2 <;> go_ret <;> exact ⟨rfl, rfl⟩
def Ms5 (W : World) (q : Nat) (k ki : Int) (s : ByteArray) (a b : Option Addr) (n m ca cb : Nat) (D1 D2 : Bool) (w : World) : Prop :=
  w.heap[q]? = some (.cells #[.int .i64 k, .int .i64 ki, .string s, .slice a n (if D1 then n else ca), .slice b m (if D2 then m else cb)] 28 (0, 0)) ∧ Ob W w q
section
variable {W w : World} {q : Nat} {k ki : Int} {s : ByteArray} {a b : Option Addr} {n m ca cb : Nat} {D : Nat → Bool} {D1 D2 : Bool}
theorem ms5_ne {i s1 s2 : Nat} (h1 : s1 ≠ i) (h2 : s2 ≠ i) (h : Ms5 W q k ki s a b n m ca cb (D s1) (D s2) w) : Ms5 W q k ki s a b n m ca cb (add1 D i s1) (add1 D i s2) w := by
  rw [add1_ne h1, add1_ne h2]; exact h
theorem ms5_c3 (h : Ms5 W q k ki s a b n m ca cb D1 D2 w) (h1 : D1 = false) : w.cell? ⟨q, 3, none⟩ = some (.slice a n ca) := by
  subst h1; simp only [World.cell?, h.1]; rfl
theorem ms5_c4 (h : Ms5 W q k ki s a b n m ca cb D1 D2 w) (h1 : D2 = false) : w.cell? ⟨q, 4, none⟩ = some (.slice b m cb) := by
  subst h1; simp only [World.cell?, h.1]; rfl
theorem ms5_7 (h : Ms5 W q k ki s a b n m ca cb (D 7) (D 9) w) (h1 : D 7 = false) :
    (Instr.storeAt 25 (.pointer (some ⟨q, 3, none⟩)) (.slice a n n)).run Tryz.prog w = .ok () (w.setCell ⟨q, 3, none⟩ (.slice a n n)) ∧ Ms5 W q k ki s a b n m ca cb (add1 D 7 7) (add1 D 7 9) (w.setCell ⟨q, 3, none⟩ (.slice a n n)) := by
  have hc : (w.cell? ⟨q, 3, none⟩).isSome = true := by rw [ms5_c3 h h1]; rfl
  have hf : w.frozen? ⟨q, 3, none⟩ = false := by simp [World.frozen?, h.1]
  refine ⟨by simp [Instr.storeAt, Instr.sureAddr, go_sem, ms5_c3 h h1, hf], ?_⟩
  rw [add1_eq, add1_ne (by decide)]
  have e := setCell_eq_setRow w q 3 _ _ (0, 0) (.slice a n n) h.1
  rw [e]
  exact ⟨(setRow_heap w q _ _ _ _ h.1).trans rfl, h.2.rowset⟩
theorem ms5_9 (h : Ms5 W q k ki s a b n m ca cb (D 7) (D 9) w) (h1 : D 9 = false) :
    (Instr.storeAt 26 (.pointer (some ⟨q, 4, none⟩)) (.slice b m m)).run Tryz.prog w = .ok () (w.setCell ⟨q, 4, none⟩ (.slice b m m)) ∧ Ms5 W q k ki s a b n m ca cb (add1 D 9 7) (add1 D 9 9) (w.setCell ⟨q, 4, none⟩ (.slice b m m)) := by
  have hf : w.frozen? ⟨q, 4, none⟩ = false := by simp [World.frozen?, h.1]
  refine ⟨by simp [Instr.storeAt, Instr.sureAddr, go_sem, ms5_c4 h h1, hf], ?_⟩
  rw [add1_eq, add1_ne (by decide)]
  have e := setCell_eq_setRow w q 4 _ _ (0, 0) (.slice b m m) h.1
  rw [e]
  exact ⟨(setRow_heap w q _ _ _ _ h.1).trans rfl, h.2.rowset⟩
theorem ms5_11 (h1 : D1 = true) (h2 : D2 = true) (h : Ms5 W q k ki s a b n m ca cb D1 D2 w) : w.heap[q]? = some (.cells #[.int .i64 k, .int .i64 ki, .string s, .slice a n n, .slice b m m] 28 (0, 0)) ∧ Ob W w q := by
  subst h1; subst h2; exact h
end
def S05v (q : Nat) (a b : Option Addr) (n m ca cb : Nat) : Nat → Value → Prop
  | 0, v => v = .pointer (some ⟨q, 3, none⟩)
  | 1, v => v = .slice a n ca
  | 2, v => v = .slice a n n
  | 3, v => v = .pointer (some ⟨q, 4, none⟩)
  | 4, v => v = .slice b m cb
  | 5, v => v = .slice b m m
  | 6, v => v = .pointer (some ⟨q, 3, none⟩)
  | 8, v => v = .pointer (some ⟨q, 4, none⟩)
  | _, _ => True
def S05d : Nat → Nat
  | 0 => 11
  | 1 => 12
  | 2 => 13
  | 3 => 14
  | 4 => 15
  | 5 => 16
  | 6 => 17
  | 7 => 1007
  | 8 => 18
  | 9 => 1009
  | i => 2000 + i

set_option maxHeartbeats 4000000 in
set_option maxRecDepth 100000 in
theorem sorted_05 {F : Nat → Prop} {w : World} {k ki : Int} {s : List UInt8} {a b : Option Addr} {n m ca cb : Nat} {t : T} (h : VA F w t [.int .i64 k, .int .i64 ki, .string (st s), .slice a n ca, .slice b m cb]) (c1 : n ≤ ca ∧ ca ≤ 9223372036854775807) (c2 : m ≤ cb ∧ cb ≤ 9223372036854775807) (z1 : a = none → n = 0) (z2 : b = none → m = 0) : Calls Tryz.prog 41 #[.agg #[.int .i64 k, .int .i64 ki, .string (st s), .slice a n ca, .slice b m cb], .int .i64 0] w (AnG5 F w t) := by
  obtain ⟨W, hW⟩ : ∃ W, W = (w.alloc (.cells #[.int .i64 k, .int .i64 ki, .string (st s), .slice a n ca, .slice b m cb] 28)).alloc (.cells #[.int .i64 0, .int .i64 0, .string ⟨#[]⟩, .slice none 0 0, .slice none 0 0] 28) := ⟨_, rfl⟩
  obtain ⟨q, hq⟩ : ∃ q, q = w.heap.size := ⟨_, rfl⟩
  have hb : Hid (Below w.heap.size w W) := hide1 (by rw [hW]; exact blw_al ((Below.refl _ _).alloc (Nat.le_refl _) _) (by simp) _)
  have hr2 : W.heap[q]? = some (.cells #[.int .i64 k, .int .i64 ki, .string (st s), .slice a n ca, .slice b m cb] 28 (0, 0)) := by
    rw [hW, hq]
    show ((w.heap.push _).push _)[w.heap.size]? = _
    rw [Array.getElem?_push, if_neg (by simp), Array.getElem?_push, if_pos rfl]
  have hr4 : W.heap[q + 1]? = some (.cells #[.int .i64 0, .int .i64 0, .string ⟨#[]⟩, .slice none 0 0, .slice none 0 0] 28 (0, 0)) := by
    rw [hW, hq]
    show ((w.heap.push _).push _)[w.heap.size + 1]? = _
    rw [Array.getElem?_push, if_pos (by simp)]
  have hM0 : Ms5 W q k ki (st s) a b n m ca cb false false W.drew := ⟨hr2, ⟨rfl, rfl, rfl, rfl, fun _ _ => rfl⟩⟩
  replace hr2 := hide1 hr2
  replace hr4 := hide1 hr4
  replace hM0 := hide1 hM0
  go_enter Tryz.func41, Tryz.ntmps41
  go_upto_region 2 with fail
  rw [← hW, ← hq]
  replace hM0 := hM0.out
  clear hW
  refine wp_rel5 _ _ (fun _ j v _ => S05v q a b n m ca cb j v) (fun D w => Ms5 W q k ki (st s) a b n m ca cb (D 7) (D 9) w) S05d (by kernel_rfl) (by kernel_rfl) 10 (by kernel_rfl) ?_ ?_ rfl hM0 ?_ ?_
  · intro ix o ho
    match ix, ho with
    | 0, ho => obtain rfl := Option.some.inj ho; exact .inl ⟨rfl, by show 11 < 68; decide⟩
    | 1, ho => obtain rfl := Option.some.inj ho; exact .inl ⟨rfl, by show 12 < 68; decide⟩
    | 2, ho => obtain rfl := Option.some.inj ho; exact .inl ⟨rfl, by show 13 < 68; decide⟩
    | 3, ho => obtain rfl := Option.some.inj ho; exact .inl ⟨rfl, by show 14 < 68; decide⟩
    | 4, ho => obtain rfl := Option.some.inj ho; exact .inl ⟨rfl, by show 15 < 68; decide⟩
    | 5, ho => obtain rfl := Option.some.inj ho; exact .inl ⟨rfl, by show 16 < 68; decide⟩
    | 6, ho => obtain rfl := Option.some.inj ho; exact .inl ⟨rfl, by show 17 < 68; decide⟩
    | 7, ho => obtain rfl := Option.some.inj ho; exact .inr ⟨⟨rfl, fun _ _ _ _ => trivial⟩, by show 68 ≤ 1007; decide⟩
    | 8, ho => obtain rfl := Option.some.inj ho; exact .inl ⟨rfl, by show 18 < 68; decide⟩
    | 9, ho => obtain rfl := Option.some.inj ho; exact .inr ⟨⟨rfl, fun _ _ _ _ => trivial⟩, by show 68 ≤ 1009; decide⟩
    | _ + 10, ho => exact absurd ho (by simp)
  · intro ix jx hi hj e; unfold S05d at e; split at e <;> split at e <;> omega
  · intro ix o ho
    match ix, ho with
    | 0, ho =>
      obtain rfl := Option.some.inj ho
      intro D a1 w hM hsl hdep hDi hcl K hK
      have hp2 : a1.tmps.getD 2 undef = .pointer (some ⟨q, 0, none⟩) := hsl 2 (by intro j hj; unfold S05d; split <;> omega)
      refine ⟨rfl, ?_⟩
      refine wp_val (w' := w) (v := .pointer (some ⟨q, 3, none⟩)) (by simp only [execOp, Act.eval]; rw [show a1.tmps.getD 2 undef = _ from hp2]; kernel_rfl) ?_
      exact hK _ _ rfl (ms5_ne (by decide) (by decide) hM) (fun _ _ _ _ h => h)
    | 1, ho =>
      obtain rfl := Option.some.inj ho
      intro D a1 w hM hsl hdep hDi hcl K hK
      have e0 := (hdep ⟨0, .data⟩ (by simp) rfl).1
      have hD : D 7 = false := by cases h9 : D 7 with | false => rfl | true => have := hcl 7 _ rfl h9 ⟨1, .phase⟩ (by simp) rfl; rw [this] at hDi; cases hDi
      have hl := ms5_c3 hM hD
      refine ⟨rfl, ?_⟩
      refine wp_val (w' := w) (v := .slice a n ca) (by simp only [execOp, Act.eval]; rw [show a1.tmps.getD 11 undef = _ from e0]; simp only [Sem.run_bind, ld_sV hl, Result.andThen_ok, Sem.run_pure]) ?_
      exact hK _ _ rfl (ms5_ne (by decide) (by decide) hM) (fun _ _ _ _ h => h)
    | 2, ho =>
      obtain rfl := Option.some.inj ho
      intro D a1 w hM hsl hdep hDi hcl K hK
      have e1 := (hdep ⟨1, .data⟩ (by simp) rfl).1
      refine ⟨rfl, ?_⟩
      refine oper_any (J := fun r w' => r = .slice a n n ∧ w' = w) 68 #[.tmp 12] _ rfl #[.slice a n ca] (by simp only [List.map_toArray, List.map_cons, List.map_nil, Act.eval]; rw [show a1.tmps.getD 12 undef = _ from e1]) (fun w => by kernel_rfl) ((clip_V5 c1 z1).mono fun e w' h => ⟨_, h.1, rfl, h.2⟩) ?_
      rintro r w' ⟨rfl, rfl⟩
      exact hK _ _ rfl (ms5_ne (by decide) (by decide) hM) (fun _ _ _ _ h => h)
    | 3, ho =>
      obtain rfl := Option.some.inj ho
      intro D a1 w hM hsl hdep hDi hcl K hK
      have hp2 : a1.tmps.getD 2 undef = .pointer (some ⟨q, 0, none⟩) := hsl 2 (by intro j hj; unfold S05d; split <;> omega)
      refine ⟨rfl, ?_⟩
      refine wp_val (w' := w) (v := .pointer (some ⟨q, 4, none⟩)) (by simp only [execOp, Act.eval]; rw [show a1.tmps.getD 2 undef = _ from hp2]; kernel_rfl) ?_
      exact hK _ _ rfl (ms5_ne (by decide) (by decide) hM) (fun _ _ _ _ h => h)
    | 4, ho =>
      obtain rfl := Option.some.inj ho
      intro D a1 w hM hsl hdep hDi hcl K hK
      have e3 := (hdep ⟨3, .data⟩ (by simp) rfl).1
      have hD : D 9 = false := by cases h9 : D 9 with | false => rfl | true => have := hcl 9 _ rfl h9 ⟨4, .phase⟩ (by simp) rfl; rw [this] at hDi; cases hDi
      have hl := ms5_c4 hM hD
      refine ⟨rfl, ?_⟩
      refine wp_val (w' := w) (v := .slice b m cb) (by simp only [execOp, Act.eval]; rw [show a1.tmps.getD 14 undef = _ from e3]; simp only [Sem.run_bind, ld_sP hl, Result.andThen_ok, Sem.run_pure]) ?_
      exact hK _ _ rfl (ms5_ne (by decide) (by decide) hM) (fun _ _ _ _ h => h)
    | 5, ho =>
      obtain rfl := Option.some.inj ho
      intro D a1 w hM hsl hdep hDi hcl K hK
      have e4 := (hdep ⟨4, .data⟩ (by simp) rfl).1
      refine ⟨rfl, ?_⟩
      refine oper_any (J := fun r w' => r = .slice b m m ∧ w' = w) 69 #[.tmp 15] _ rfl #[.slice b m cb] (by simp only [List.map_toArray, List.map_cons, List.map_nil, Act.eval]; rw [show a1.tmps.getD 15 undef = _ from e4]) (fun w => by kernel_rfl) ((clip_P5 c2 z2).mono fun e w' h => ⟨_, h.1, rfl, h.2⟩) ?_
      rintro r w' ⟨rfl, rfl⟩
      exact hK _ _ rfl (ms5_ne (by decide) (by decide) hM) (fun _ _ _ _ h => h)
    | 6, ho =>
      obtain rfl := Option.some.inj ho
      intro D a1 w hM hsl hdep hDi hcl K hK
      have hp2 : a1.tmps.getD 2 undef = .pointer (some ⟨q, 0, none⟩) := hsl 2 (by intro j hj; unfold S05d; split <;> omega)
      refine ⟨rfl, ?_⟩
      refine wp_val (w' := w) (v := .pointer (some ⟨q, 3, none⟩)) (by simp only [execOp, Act.eval]; rw [show a1.tmps.getD 2 undef = _ from hp2]; kernel_rfl) ?_
      exact hK _ _ rfl (ms5_ne (by decide) (by decide) hM) (fun _ _ _ _ h => h)
    | 7, ho =>
      obtain rfl := Option.some.inj ho
      intro D a1 w hM hsl hdep hDi hcl K hK
      have e6 := (hdep ⟨6, .data⟩ (by simp) rfl).1
      have e2 := (hdep ⟨2, .data⟩ (by simp) rfl).1
      obtain ⟨hst, hM2⟩ := ms5_7 hM hDi
      refine ⟨rfl, ?_⟩
      refine wp_skp (w' := w.setCell ⟨q, 3, none⟩ (.slice a n n)) (by simp only [execOp, Act.eval]; rw [show a1.tmps.getD 17 undef = _ from e6, show a1.tmps.getD 13 undef = _ from e2]; simp only [Sem.run_bind, hst, Result.andThen_ok, Sem.run_pure]) ?_
      exact hK _ _ trivial hM2 (fun _ _ _ _ h => h)
    | 8, ho =>
      obtain rfl := Option.some.inj ho
      intro D a1 w hM hsl hdep hDi hcl K hK
      have hp2 : a1.tmps.getD 2 undef = .pointer (some ⟨q, 0, none⟩) := hsl 2 (by intro j hj; unfold S05d; split <;> omega)
      refine ⟨rfl, ?_⟩
      refine wp_val (w' := w) (v := .pointer (some ⟨q, 4, none⟩)) (by simp only [execOp, Act.eval]; rw [show a1.tmps.getD 2 undef = _ from hp2]; kernel_rfl) ?_
      exact hK _ _ rfl (ms5_ne (by decide) (by decide) hM) (fun _ _ _ _ h => h)
    | 9, ho =>
      obtain rfl := Option.some.inj ho
      intro D a1 w hM hsl hdep hDi hcl K hK
      have e8 := (hdep ⟨8, .data⟩ (by simp) rfl).1
      have e5 := (hdep ⟨5, .data⟩ (by simp) rfl).1
      obtain ⟨hst, hM2⟩ := ms5_9 hM hDi
      refine ⟨rfl, ?_⟩
      refine wp_skp (w' := w.setCell ⟨q, 4, none⟩ (.slice b m m)) (by simp only [execOp, Act.eval]; rw [show a1.tmps.getD 18 undef = _ from e8, show a1.tmps.getD 16 undef = _ from e5]; simp only [Sem.run_bind, hst, Result.andThen_ok, Sem.run_pure]) ?_
      exact hK _ _ trivial hM2 (fun _ _ _ _ h => h)
    | _ + 10, ho => exact absurd ho (by simp)
  · intro D a1 wt hall hd hs hM hsl hr hact
    replace hM := ms5_11 (hall 7 (by decide)) (hall 9 (by decide)) hM
    simp only [List.filterMap_cons, List.filterMap_nil, List.foldl_cons, List.foldl_nil] at hact
    rw [hact]
    generalize a1.tmps.getD 11 undef = y11
    generalize a1.tmps.getD 12 undef = y12
    generalize a1.tmps.getD 13 undef = y13
    generalize a1.tmps.getD 14 undef = y14
    generalize a1.tmps.getD 15 undef = y15
    generalize a1.tmps.getD 16 undef = y16
    generalize a1.tmps.getD 17 undef = y17
    generalize a1.tmps.getD 18 undef = y18
    clear hact hsl hr hd hs hall a1
    simp only [Act.put, List.setIfInBounds_toArray, List.set_cons_succ, List.set_cons_zero]
    obtain ⟨hM1, hM2⟩ := hM
    have l0 : wt.cell? ⟨q, 0, none⟩ = some (.int .i64 k) := by simp only [World.cell?, hM1]; rfl
    have l1 : wt.cell? ⟨q, 1, none⟩ = some (.int .i64 ki) := by simp only [World.cell?, hM1]; rfl
    have l2 : wt.cell? ⟨q, 2, none⟩ = some (.string (st s)) := by simp only [World.cell?, hM1]; rfl
    have l3 : wt.cell? ⟨q, 3, none⟩ = some (.slice a n n) := by simp only [World.cell?, hM1]; rfl
    have l4 : wt.cell? ⟨q, 4, none⟩ = some (.slice b m m) := by simp only [World.cell?, hM1]; rfl
    have hl5 : wt.rangeAt q 0 [.int .i64 k, .int .i64 ki, .string (st s), .slice a n n, .slice b m m] := fun j z hj => by
      simp only [World.cell?, hM1]
      rw [Nat.zero_add]
      simpa using hj
    have hr5 := (hM2.block (q + 1) (by omega)).trans hr4.out
    have hz := setRow_heap wt (q + 1) _ #[.int .i64 k, .int .i64 ki, .string (st s), .slice a n n, .slice b m m] _ _ hr5
    have ha : Hid (AnG5 F w t (.returned (.agg #[.int .i64 k, .int .i64 ki, .string (st s), .slice a n n, .slice b m m])) (wt.setRow (q + 1) #[.int .i64 k, .int .i64 ki, .string (st s), .slice a n n, .slice b m m])) := hide1 (by
      have hbl : Below w.heap.size w wt := ⟨hM2.os.trans hb.out.os, hM2.tape.trans hb.out.tape, hM2.output.trans hb.out.output, by rw [hM2.size]; exact hb.out.size, fun k hk => (hM2.block k (by omega)).trans (hb.out.block k hk)⟩
      exact ⟨_, rfl, rfl, blw_own hbl (by omega) _, VA.frame (c := [.int .i64 k, .int .i64 ki, .string (st s), .slice a n n, .slice b m m]) (va_cap h) (fun k _ hs => (setRow_other wt _ k _ (by omega)).trans (hbl.block k hs)) (fun _ h _ => .inl h)⟩)
    replace hz := hide1 hz
    clear hM1 hM2 hr2 hr4 hb hM0 h c1 c2 z1 z2
    go_wp2_with (first | refine wpList_load_mid rfl 28 (.tmp 2) rfl q 0 rfl [.int .i64 k, .int .i64 ki, .string (st s), .slice a n n, .slice b m m] _ hl5 Tryz.underlying28 rfl (by kernel_rfl) ?_ | refine wpList_store_row rfl Vt (.tmp 4) (.tmp 19) rfl (q + 1) #[.int .i64 k, .int .i64 ki, .string (st s), .slice a n n, .slice b m m] rfl rfl Vt _ hr5 (by kernel_rfl) rfl (by kernel_rfl) ?_)
    refine bodyPost_ret (results_v1 rfl _ rfl rfl hz.out) rfl ?_
    exact ha.out
theorem RwA.none0 {F : Nat → Prop} {w : World} {e : TypeId} {z : Nat} {a : Option Addr} {n c : Nat} {cs : List (List Value)} (h : RwA F w e z (.slice a n c) cs) : a = none → n = 0 := by
  rintro rfl
  obtain ⟨h1, ⟨b, cap, hv, h2⟩ | ⟨b, o, cap, cur, fz, hv, h2⟩⟩ := h
  · cases hv; rfl
  · cases hv
theorem sorted_g5 : ∀ (d : Nat), d ≤ 8 → ∀ {h : Nat} {F : Nat → Prop} {w : World} {t : T} {c : List Value}, hgt h t → VB F w t c → (∀ k, F k → k < w.heap.size) → Calls Tryz.prog 41 #[.agg c.toArray, .int .i64 (d : Nat)] w (AnG5 F w (so d t))
  | 0, _, h, F, w, t, c, _, hv, _ => by
    have hva := hv.va
    cases hv with
    | @mk k ki s l p sl sp cl cp r1 r2 e1 e2 hl hp1 hp2 c1 c2 =>
      obtain ⟨a, ca, rfl⟩ := r1.slc
      obtain ⟨b, cb, rfl⟩ := r2.slc
      exact sorted_05 hva (c1 _ _ _ rfl) (c2 _ _ _ rfl) r1.none0 r2.none0
  | d + 1, hd, h, F, w, t, c, hh, hv, hF => by
    refine (sorted_x (Q := fun t => ∃ h, hgt h t) (d := d + 1) (fun ht hv hF => ?_) ?_ (by omega) (by omega) hv hF).mono fun _ _ h => h.g
    · obtain ⟨h', h1⟩ := ht
      exact sorted_g5 d (by omega) h1 hv hF
    · obtain ⟨k, ki, s, l, p⟩ := t
      cases h with
      | zero => exact hh.elim
      | succ h =>
        obtain ⟨b1, b2, h1, h2⟩ := hh
        exact ⟨b1, b2, fun t ht => ⟨h, h1 t ht⟩, fun q hq => ⟨h, h2 q hq⟩⟩
theorem sorted_85 {h : Nat} {F : Nat → Prop} {w : World} {t : T} {c : List Value} (hh : hgt h t) (hv : VB F w t c) (hF : ∀ k, F k → k < w.heap.size) : Calls Tryz.prog 41 #[.agg c.toArray, .int .i64 8] w (AnX5 F w (so 8 t)) := by
  refine sorted_x (Q := fun t => ∃ h, hgt h t) (d := 8) (fun ht hv hF => ?_) ?_ (by omega) (by omega) hv hF
  · obtain ⟨h', h1⟩ := ht
    exact sorted_g5 7 (by omega) h1 hv hF
  · obtain ⟨k, ki, s, l, p⟩ := t
    cases h with
    | zero => exact hh.elim
    | succ h =>
      obtain ⟨b1, b2, h1, h2⟩ := hh
      exact ⟨b1, b2, fun t ht => ⟨h, h1 t ht⟩, fun q hq => ⟨h, h2 q hq⟩⟩
theorem srt_5 {h : Nat} {F : Nat → Prop} {w : World} {t : T} {c : List Value} (hh : hgt h t) (hv : VB F w t c) (hF : ∀ k, F k → k < w.heap.size) : Calls Tryz.prog 24 #[.agg c.toArray] w (AnX5 F w (so 8 t)) := by
  have hb := bx2_bl w c.toArray
  have hr := bx2_at w c.toArray
  have hc := sorted_85 hh (hv.frame (w' := bx2 w c.toArray) (G := F) (fun k _ hk => hb.block k hk) (fun _ h _ => h)) (fun k hk => Nat.lt_of_lt_of_le (hF k hk) hb.size)
  obtain ⟨x0, x1, x2, x3, x4, rfl⟩ := five_l hv.va.len
  replace hc : Calls Tryz.prog 41 #[.agg #[x0, x1, x2, x3, x4], .int .i64 8] (bx2 w #[x0, x1, x2, x3, x4]) _ := hc
  clear hv
  show Calls Tryz.prog 24 #[.agg #[x0, x1, x2, x3, x4]] w _
  obtain ⟨wb, hwb⟩ : ∃ wb, wb = bx2 w #[x0, x1, x2, x3, x4] := ⟨_, rfl⟩
  have hr' : wb.heap[w.heap.size + 1]? = some (.cells #[.int .i64 0, .int .i64 0, .string ⟨#[]⟩, .slice none 0 0, .slice none 0 0] 28 (0, 0)) := by rw [hwb]; exact hr
  have hb' : Below w.heap.size w wb := by rw [hwb]; exact hb
  have hsz : w.heap.size + 1 < wb.heap.size := (Array.getElem?_eq_some_iff.1 hr').1
  rw [← hwb] at hc
  clear hr hb
  replace hr' := hide1 hr'
  replace hb' := hide1 hb'
  go_enter Tryz.func24, Tryz.ntmps24
  go_wp2_with fail
  rw [show (w.alloc (.cells #[x0, x1, x2, x3, x4] 28)).alloc (.cells #[.int .i64 0, .int .i64 0, .string ⟨#[]⟩, .slice none 0 0, .slice none 0 0] 28) = wb from hwb.symm]
  refine hc.mono ?_
  rintro e w1 ⟨k, ki, s, sl, sp, xl, xp, rfl, b1, ⟨q1, q1l⟩, ⟨q2, q2l⟩, hv1⟩
  have hr1 := (b1.block _ hsz).trans hr'.out
  have hb1 := hb'.out.trans (b1.mono hb'.out.size)
  have h1c := hv1.one
  have hz := setRow_heap w1 (w.heap.size + 1) _ #[.int .i64 k, .int .i64 ki, .string (st s), sl, sp] _ _ hr1
  have hkk : ∀ k', k' ≠ w.heap.size + 1 → (w1.setRow (w.heap.size + 1) #[.int .i64 k, .int .i64 ki, .string (st s), sl, sp]).heap[k']? = w1.heap[k']? := fun k' hk => setRow_other w1 _ k' _ hk
  have ha : Hid (AnX5 F w (so 8 t) (.returned (.agg #[.int .i64 k, .int .i64 ki, .string (st s), sl, sp])) (w1.setRow (w.heap.size + 1) #[.int .i64 k, .int .i64 ki, .string (st s), sl, sp])) := hide1 (by
    refine ⟨k, ki, s, sl, sp, xl, xp, rfl, blw_own hb1 (by omega) _, ⟨ownsRow_mono (own_kept q1 fun b e => hkk b (by have := (q1.lt b e).1; omega)) hb'.out.size, q1l⟩, ⟨ownsRow_mono (own_kept q2 fun b e => hkk b (by have := (q2.lt b e).1; omega)) hb'.out.size, q2l⟩, ?_⟩
    exact VA.frame (c := [.int .i64 k, .int .i64 ki, .string (st s), sl, sp]) hv1 (fun k' hk _ => hkk k' (hk.elim (fun h => by have := hF k' h; omega) (fun h => by omega))) (fun k' hk _ => hk.imp id (fun h => Nat.le_trans hb'.out.size h)))
  replace hz := hide1 hz
  clear hwb hc hv1 hb1 hr' hb' b1 hkk q1 q2 q1l q2l
  go_wp2_with (refine wpList_store_row rfl Vt (.tmp 2) (.tmp 4) rfl (w.heap.size + 1) #[.int .i64 k, .int .i64 ki, .string (st s), sl, sp] rfl rfl Vt _ hr1 (by kernel_rfl) rfl (by simpa using h1c) ?_)
  refine bodyPost_ret (results_v1 rfl _ rfl rfl hz.out) rfl ?_
  exact ha.out
def tx3 : List UInt8 := [123, 32, 34, 98, 34, 32, 58, 32, 49, 44, 32, 34, 97, 34, 32, 58, 32, 34, 92, 117, 48, 48, 52, 49, 34, 32, 125]
def tv3 : T := .mk 5 0 [] [] [([98], .mk 2 1 [] [] []), ([97], .mk 3 0 [65] [] [])]
def cx3 : List UInt8 := [123, 34, 97, 34, 58, 34, 65, 34, 44, 34, 98, 34, 58, 49, 125]
set_option maxRecDepth 100000 in
theorem prs3 : prsV tx3 = some tv3 := rfl
set_option maxRecDepth 100000 in
theorem ct3 : ct tv3 = cx3 := by kernel_rfl
set_option maxRecDepth 100000 in
theorem isc3 : isC cx3 = true := by kernel_rfl
set_option maxRecDepth 100000 in
theorem isc4 : isC [91, 32, 93] = false := by rfl
set_option maxHeartbeats 8000000 in
set_option maxRecDepth 100000 in
theorem alive_c {w : World} (hT : Ev w) (h8 : 8 ≤ w.heap.size) : Calls Tryz.prog 18 #[] w fun e w' => e = .returned (.bool true) ∧ Below w.heap.size w w' := by
  have kc := fun (w : World) (C : Array Value) (n c : Nat) => Lib.run_convert_bytes_const (P := Tryz.prog) w 22 5 C n c Tryz.underlying22 Tryz.underlying5
  replace hT := hide1 hT
  go_enter Tryz.func18, Tryz.ntmps18
  go_wp2_with fail
  have hb1 : Below w.heap.size w (w.alloc (.cells #[.int .u8 123, .int .u8 32, .int .u8 34, .int .u8 98, .int .u8 34, .int .u8 32, .int .u8 58, .int .u8 32, .int .u8 49, .int .u8 44, .int .u8 32, .int .u8 34, .int .u8 97, .int .u8 34, .int .u8 32, .int .u8 58, .int .u8 32, .int .u8 34, .int .u8 92, .int .u8 117, .int .u8 48, .int .u8 48, .int .u8 52, .int .u8 49, .int .u8 34, .int .u8 32, .int .u8 125] 5 (27, 28))) := (Below.refl _ _).alloc (Nat.le_refl _) _
  refine (parse_d (l := tx3) (bsa_new rfl 27 rfl (27, 28)) (hT.out.below hb1 (by omega)) (by simp; omega)).mono ?_
  rintro e w1 ⟨c, ev, rfl, hcs, hco, b1, hx⟩
  have hb2 : Below w.heap.size w w1 := hb1.trans (b1.mono hb1.size)
  rcases hx with ⟨t, ht, rfl, hv⟩ | ⟨ht, _⟩
  case inr => rw [prs3] at ht; cases ht
  obtain ⟨-, hh, hg, hs⟩ := prs_ok ht
  rw [prs3] at ht
  obtain rfl : tv3 = t := Option.some.inj ht
  clear b1 hb1 ht
  obtain ⟨c0, c1, c2, c3, c4, rfl⟩ := arr5q hcs
  go_upto_region 2 with (refine wpList_store_row rfl 28 (.tmp 1) (.tmp 8) rfl w1.heap.size #[c0, c1, c2, c3, c4] rfl rfl 28 _ (bxw_z w1) (by kernel_rfl) rfl hco ?_)
  have haA := bxw_at w1 #[c0, c1, c2, c3, c4]
  have hlA := bxw_bl w1 #[c0, c1, c2, c3, c4]
  generalize hwe : bxw w1 #[c0, c1, c2, c3, c4] = wA at *
  rw [show (w1.alloc (.cells #[.int .i64 0, .int .i64 0, .string ⟨#[]⟩, .slice none 0 0, .slice none 0 0] 28)).setRow w1.heap.size #[c0, c1, c2, c3, c4] = wA from hwe]
  clear hwe
  have BA := hide1 (hb2.trans (hlA.mono hb2.size))
  have hvA := hv.frame (w' := wA) (G := fun _ => True) (fun j h hj => hlA.block j hj) (fun _ h hk => trivial)
  have hTA := hide1 (hT.out.below BA.out (by omega))
  have h8A : 8 ≤ wA.heap.size := by have := BA.out.size; omega
  have hpu := put_c hh hs hvA hTA.out h8A
  replace hpu : Calls Tryz.prog 20 #[.agg #[c0, c1, c2, c3, c4]] wA _ := hpu
  have hl5 : wA.rangeAt w1.heap.size 0 [c0, c1, c2, c3, c4] := fun j u hj => by
    simp only [World.cell?, haA]
    rw [Nat.zero_add]
    simpa using hj
  clear hv hvA hlA haA hb2
  go_wp2_with (first | refine wpList_load_mid rfl 28 (.tmp 1) rfl w1.heap.size 0 rfl [c0, c1, c2, c3, c4] _ hl5 Tryz.underlying28 rfl (by kernel_rfl) ?_ | fail)
  refine hpu.mono ?_
  rintro e w2 ⟨v2, ev2, rfl, b2, h2⟩
  have B2 := hide1 (BA.out.trans (b2.mono BA.out.size))
  have hT2 := hide1 (hTA.out.below b2 h8A)
  rcases h2 with ⟨hg', _⟩ | ⟨_, h4, _⟩ | ⟨_, h4, rfl, ho⟩
  · rw [hg] at hg'; cases hg'
  · rw [ct3] at h4; simp [cx3] at h4
  rw [ct3] at ho
  have hov := conv_b ho.bs
  obtain ⟨oa, oc, rfl⟩ := ho.slc
  have his := is_d ho.bs hT2.out (by have := B2.out.size; omega)
  rw [isc3] at his
  rw [show st cx3 = ⟨#[123, 34, 97, 34, 58, 34, 65, 34, 44, 34, 98, 34, 58, 49, 125]⟩ from rfl] at hov
  clear hpu hl5 b2 BA ho hh hg hs h4
  simp only [show cx3.length = 15 from rfl] at *
  go_wp2_with fail
  refine his.mono ?_
  rintro e w3 ⟨rfl, b3⟩
  have B3 := hide1 (B2.out.trans (b3.mono B2.out.size))
  have hT3 := hide1 (hT2.out.below b3 (by have := B2.out.size; omega))
  clear his b3 B2 hT2
  go_wp2_with fail
  have hb4 : Below w3.heap.size w3 (w3.alloc (.cells #[.int .u8 91, .int .u8 32, .int .u8 93] 5 (3, 4))) := (Below.refl _ _).alloc (Nat.le_refl _) _
  refine (is_d (l := [91, 32, 93]) (bsa_new rfl 3 rfl (3, 4)) (hT3.out.below hb4 (by have := B3.out.size; omega)) (by have := B3.out.size; simp; omega)).mono ?_
  rw [isc4]
  rintro e w4 ⟨rfl, b4⟩
  have B4 := hide1 ((B3.out.trans (hb4.mono B3.out.size)).trans (b4.mono (by have := B3.out.size; simp; omega)))
  go_wp2
  go_ret
  exact ⟨rfl, B4.out⟩
def lgB : Nat → T → Bool
  | 0, _ => false
  | h + 1, .mk _ _ s l p => decide (5000 < s.length) || l.any (lgB h) || p.any fun q => decide (5000 < q.1.length) || lgB h q.2
theorem bxw_rng (w : World) {x0 x1 x2 x3 x4 : Value} : (bxw w #[x0, x1, x2, x3, x4]).rangeAt w.heap.size 0 [x0, x1, x2, x3, x4] := fun j u hj => by
  have hx := bxw_at w #[x0, x1, x2, x3, x4]
  simp only [World.cell?, hx]
  rw [Nat.zero_add]
  simpa using hj
def bxp (w : World) (c : Array Value) : World := (w.alloc (.cells #[.string ⟨#[]⟩, .int .i64 0, .int .i64 0, .string ⟨#[]⟩, .slice none 0 0, .slice none 0 0] 49)).setRow w.heap.size c
theorem bxp_z (w : World) : (w.alloc (.cells #[.string ⟨#[]⟩, .int .i64 0, .int .i64 0, .string ⟨#[]⟩, .slice none 0 0, .slice none 0 0] 49)).heap[w.heap.size]? = some (.cells #[.string ⟨#[]⟩, .int .i64 0, .int .i64 0, .string ⟨#[]⟩, .slice none 0 0, .slice none 0 0] 49 (0, 0)) := by
  show (w.heap.push _)[w.heap.size]? = _
  rw [Array.getElem?_push, if_pos rfl]
theorem bxp_at (w : World) (c : Array Value) : (bxp w c).heap[w.heap.size]? = some (.cells c 49 (0, 0)) := setRow_heap _ w.heap.size _ c _ _ (bxp_z w)
theorem bxp_bl (w : World) (c : Array Value) : Below w.heap.size w (bxp w c) := ⟨rfl, rfl, rfl, by simp [bxp, World.setRow], fun k hk => (setRow_other _ _ k _ (by omega)).trans (by
  show (w.heap.push _)[k]? = _
  rw [Array.getElem?_push, if_neg (by omega)])⟩
theorem any_stop {α : Type} {f : α → Bool} {l : List α} {j : Nat} {x : α} (h : l[j]? = some x) (hf : f x = true) : l.any f = true := List.any_eq_true.2 ⟨x, List.mem_of_getElem? h, hf⟩
theorem any_no {α : Type} {f : α → Bool} {l : List α} (h : ∀ (j : Nat) (x : α), l[j]? = some x → f x = false) : l.any f = false := by
  cases hx : l.any f with
  | false => rfl
  | true =>
    obtain ⟨x, hm, h2⟩ := List.any_eq_true.1 hx
    obtain ⟨j, hj⟩ := List.getElem?_of_mem hm
    rw [h j x hj] at h2; cases h2
set_option maxHeartbeats 8000000 in
set_option maxRecDepth 100000 in
theorem long_s {h : Nat} (ih : ∀ {F : Nat → Prop} {w : World} {t : T} {c : List Value}, hgt h t → VA F w t c → Calls Tryz.prog 36 #[.agg c.toArray] w fun e w' => e = .returned (.bool (lgB h t)) ∧ Below w.heap.size w w')
    {F : Nat → Prop} {w : World} {t : T} {c : List Value} (hh : hgt (h + 1) t) (hv : VA F w t c) : Calls Tryz.prog 36 #[.agg c.toArray] w fun e w' => e = .returned (.bool (lgB (h + 1) t)) ∧ Below w.heap.size w w' := by
  cases hv with
  | @mk k ki s l p sl sp cl cp r1 r2 e1 e2 hl hp1 hp2 =>
    obtain ⟨hw1, hw2, hh1, hh2⟩ := hh
    have hw1' : cl.length ≤ 1000000000 := by rw [e1]; omega
    have hw2' : cp.length ≤ 1000000000 := by rw [e2]; omega
    obtain ⟨sa, sc, rfl⟩ : ∃ va vc, sl = .slice va cl.length vc := by
      obtain ⟨_, ⟨a, cap, h1, h2⟩ | ⟨b, o, cap, cur, fz, h1, _⟩⟩ := r1
      · exact ⟨a, cap, by rw [h1, h2]; rfl⟩
      · exact ⟨_, cap, h1⟩
    obtain ⟨pa, pc, rfl⟩ : ∃ va vc, sp = .slice va cp.length vc := by
      obtain ⟨_, ⟨a, cap, h1, h2⟩ | ⟨b, o, cap, cur, fz, h1, _⟩⟩ := r2
      · exact ⟨a, cap, by rw [h1, h2]; rfl⟩
      · exact ⟨_, cap, h1⟩
    obtain ⟨wb, hwb⟩ : ∃ wb, wb = w.alloc (.cells #[.int .i64 k, .int .i64 ki, .string (st s), .slice sa cl.length sc, .slice pa cp.length pc] 28) := ⟨_, rfl⟩
    have hb0 : Below w.heap.size w wb := by rw [hwb]; exact (Below.refl _ _).alloc (Nat.le_refl _) _
    have hbx : wb.heap[w.heap.size]? = some (.cells #[.int .i64 k, .int .i64 ki, .string (st s), .slice sa cl.length sc, .slice pa cp.length pc] 28 (0, 0)) := by
      rw [hwb]
      show (w.heap.push _)[w.heap.size]? = _
      rw [Array.getElem?_push, if_pos rfl]
    have hz : w.heap.size < wb.heap.size := (Array.getElem?_eq_some_iff.1 hbx).1
    obtain ⟨M, hM⟩ : ∃ M, Hid (M = lgB (h + 1) (.mk k ki s l p)) := ⟨_, hide1 rfl⟩
    rw [← hM.out]
    have hMe : Hid (M = (decide (5000 < s.length) || l.any (lgB h) || p.any fun q => decide (5000 < q.1.length) || lgB h q.2)) := hide1 hM.out
    have c2 : wb.cell? ⟨w.heap.size, 2, none⟩ = some (.string (st s)) := by simp only [World.cell?, hbx]; rfl
    have c3 : wb.cell? ⟨w.heap.size, 3, none⟩ = some (.slice sa cl.length sc) := by simp only [World.cell?, hbx]; rfl
    have hsz := st_size s
    replace e1 := hide1 e1
    replace e2 := hide1 e2
    replace hb0 := hide1 hb0
    replace hbx := hide1 hbx
    clear hM
    show Calls Tryz.prog 36 #[.agg #[.int .i64 k, .int .i64 ki, .string (st s), .slice sa cl.length sc, .slice pa cp.length pc]] w _
    go_enter Tryz.func36, Tryz.ntmps36
    go_upto_region 1 with fail
    rw [← hwb]
    clear hwb
    by_cases hs5 : 5000 < s.length
    · have g : (s.length : Int) > 5000 := by omega
      have hMt : M = true := by rw [hMe.out]; simp [hs5]
      go_wp2
      go_ret
      exact ⟨by rw [hMt]; rfl, hb0.out⟩
    · have g : ¬ (s.length : Int) > 5000 := by omega
      go_wp2_with fail
      go_loopw [14] (fun i wr => ∃ j : Nat, j ≤ cl.length ∧ i = .int .i64 (j : Nat) ∧ Hid (∀ (q : Nat) (x : T), q < j → l[q]? = some x → lgB h x = false) ∧ Hid (Below wb.heap.size wb wr)) (fun i _ => cl.length - (intOf i).toNat)
      case atStart => exact ⟨0, by omega, rfl, hide1 (fun q x hq => by omega), hide1 (Below.refl _ _)⟩
      case round =>
        clear c2 c3 hsz g
        obtain ⟨j, hj, rfl, hno, hbw⟩ := hrel
        have hB : Hid (Below w.heap.size w wr) := hide1 (hb0.out.trans (hbw.out.mono hb0.out.size))
        by_cases hlt : j < cl.length
        · obtain ⟨x, hx⟩ : ∃ x, cl[j]? = some x := ⟨_, List.getElem?_eq_getElem hlt⟩
          obtain ⟨u, hu⟩ : ∃ u, l[j]? = some u := ⟨_, List.getElem?_eq_getElem (by have := e1.out; omega)⟩
          have hxu := hl j u x hu hx
          obtain ⟨b, o, cap, hve, -, hbl, hr⟩ := r1.at hx
          have hva : sa = some ⟨b, o, none⟩ := by cases hve; rfl
          subst hva
          obtain ⟨x0, x1, x2, x3, x4, rfl⟩ := five_l (r1.1 x (List.mem_of_getElem? hx))
          have hr2 : wr.rangeAt b (o + j * 5) [x0, x1, x2, x3, x4] := fun q v hj => by
            rw [World.cell?_of_block (w := w) (hB.out.block b hbl)]
            exact hr q v hj
          have hone := hxu.one
          have hlA := bxw_bl wr #[x0, x1, x2, x3, x4]
          have hl5 := bxw_rng wr (x0 := x0) (x1 := x1) (x2 := x2) (x3 := x3) (x4 := x4)
          have hB2 : Hid (Below w.heap.size w (bxw wr #[x0, x1, x2, x3, x4])) := hide1 (hB.out.trans (hlA.mono hB.out.size))
          have hc := ih (c := [x0, x1, x2, x3, x4]) (hh1 u (List.mem_of_getElem? hu)) (VA.frame (c := [x0, x1, x2, x3, x4]) hxu (w' := bxw wr #[x0, x1, x2, x3, x4]) (G := F) (fun j _ hj => hB2.out.block j hj) (fun _ h _ => h))
          replace hc : Calls Tryz.prog 36 #[.agg #[x0, x1, x2, x3, x4]] (bxw wr #[x0, x1, x2, x3, x4]) _ := hc
          have hbn := hide1 (hbw.out.trans (hlA.mono hbw.out.size))
          clear hve hr hx hxu hlA
          go_upto_region 6 with (first | refine wpList_load_mid rfl 28 (.tmp 16) rfl b (o + j * 5) rfl [x0, x1, x2, x3, x4] _ hr2 Tryz.underlying28 rfl (by kernel_rfl) ?_ | refine wpList_store_row rfl 28 (.tmp 4) (.tmp 17) rfl wr.heap.size #[x0, x1, x2, x3, x4] rfl rfl 28 _ (bxw_z wr) (by kernel_rfl) rfl (by simpa using hone) ?_)
          rw [show (wr.alloc (.cells #[.int .i64 0, .int .i64 0, .string ⟨#[]⟩, .slice none 0 0, .slice none 0 0] 28)).setRow wr.heap.size #[x0, x1, x2, x3, x4] = bxw wr #[x0, x1, x2, x3, x4] from rfl]
          generalize bxw wr #[x0, x1, x2, x3, x4] = wA at *
          go_wp2_with (first | refine wpList_load_mid rfl 28 (.tmp 4) rfl wr.heap.size 0 rfl [x0, x1, x2, x3, x4] _ hl5 Tryz.underlying28 rfl (by kernel_rfl) ?_ | fail)
          refine hc.mono ?_
          rintro e w2 ⟨rfl, b2⟩
          have hb2 := hide1 (hbn.out.trans (b2.mono hbn.out.size))
          have hB3 := hide1 (hB2.out.trans (b2.mono hB2.out.size))
          clear hc b2 hbw hB hr2 hl5 hbn hB2 hone
          cases hg : lgB h u with
          | true =>
            have hMt : M = true := by rw [hMe.out, any_stop hu hg]; simp
            go_wp2
            go_ret
            exact ⟨by rw [hMt]; rfl, hB3.out⟩
          | false =>
            have hno2 : Hid (∀ (q : Nat) (x : T), q < j + 1 → l[q]? = some x → lgB h x = false) := hide1 (fun q x hq hx => by
              by_cases e : q = j
              · subst e; rw [hu] at hx; cases hx; exact hg
              · exact hno.out q x (by omega) hx)
            go_wp2
            go_roundw
            case rel => exact ⟨j + 1, by omega, by first | rfl | go_num, hno2, hb2⟩
            case measure => simp [intOf]; omega
        · have hA : l.any (lgB h) = false := any_no (fun q x hq => hno.out q x (by have h8 := (List.getElem?_eq_some_iff.1 hq).1; have h9 := e1.out; omega) hq)
          have hbr := (hbw.out.block w.heap.size hz).trans hbx.out
          have c4 : wr.cell? ⟨w.heap.size, 4, none⟩ = some (.slice pa cp.length pc) := by simp only [World.cell?, hbr]; rfl
          have hMe2 : Hid (M = p.any fun q => decide (5000 < q.1.length) || lgB h q.2) := hide1 (by rw [hMe.out, hA]; simp [hs5])
          clear hA hMe hno hbr
          go_wp2_with fail
          generalize hwq : wr = wq at *
          clear hwq
          go_loopw [24] (fun i wr => ∃ j : Nat, j ≤ cp.length ∧ i = .int .i64 (j : Nat) ∧ Hid (∀ (q : Nat) (x : List UInt8 × T), q < j → p[q]? = some x → (decide (5000 < x.1.length) || lgB h x.2) = false) ∧ Hid (Below wq.heap.size wq wr)) (fun i _ => cp.length - (intOf i).toNat)
          case atStart => exact ⟨0, by omega, rfl, hide1 (fun q x hq => by omega), hide1 (Below.refl _ _)⟩
          case round =>
            clear c4
            obtain ⟨j, hj, rfl, hno, hbt⟩ := hrel
            have hBt : Hid (Below w.heap.size w wr) := hide1 (hB.out.trans (hbt.out.mono hB.out.size))
            by_cases hlt : j < cp.length
            · obtain ⟨x, hx⟩ : ∃ x, cp[j]? = some x := ⟨_, List.getElem?_eq_getElem hlt⟩
              obtain ⟨u, hu⟩ : ∃ u, p[j]? = some u := ⟨_, List.getElem?_eq_getElem (by have := e2.out; omega)⟩
              have hxu := hp2 j u x hu hx
              have hnm := hp1 j u x hu hx
              obtain ⟨b, o, cap, hve, -, hbl, hr⟩ := r2.at hx
              have hva : pa = some ⟨b, o, none⟩ := by cases hve; rfl
              subst hva
              obtain ⟨x0, x1, x2, x3, x4, x5, rfl⟩ := arr6 (r2.1 x (List.mem_of_getElem? hx))
              obtain rfl : x0 = .string (st u.1) := by simpa using hnm
              have hr2 : wr.rangeAt b (o + j * 6) [.string (st u.1), x1, x2, x3, x4, x5] := fun q v hj => by
                rw [World.cell?_of_block (w := w) (hBt.out.block b hbl)]
                exact hr q v hj
              have hone := hxu.one
              have hlA := bxp_bl wr #[.string (st u.1), x1, x2, x3, x4, x5]
              have hat := bxp_at wr #[.string (st u.1), x1, x2, x3, x4, x5]
              have hB2 : Hid (Below w.heap.size w (bxp wr #[.string (st u.1), x1, x2, x3, x4, x5])) := hide1 (hBt.out.trans (hlA.mono hBt.out.size))
              have hc := ih (c := [x1, x2, x3, x4, x5]) (hh2 u (List.mem_of_getElem? hu)) (VA.frame (c := [x1, x2, x3, x4, x5]) hxu (w' := bxp wr #[.string (st u.1), x1, x2, x3, x4, x5]) (G := F) (fun j _ hj => hB2.out.block j hj) (fun _ h _ => h))
              replace hc : Calls Tryz.prog 36 #[.agg #[x1, x2, x3, x4, x5]] (bxp wr #[.string (st u.1), x1, x2, x3, x4, x5]) _ := hc
              have hbn := hide1 (hbt.out.trans (hlA.mono hbt.out.size))
              clear hve hr hx hxu hlA hnm
              go_upto_region 12 with (first | refine wpList_load_mid rfl 49 (.tmp 26) rfl b (o + j * 6) rfl [.string (st u.1), x1, x2, x3, x4, x5] _ hr2 Tryz.underlying49 rfl (by kernel_rfl) ?_ | refine wpList_store_row rfl 49 (.tmp 6) (.tmp 27) rfl wr.heap.size #[.string (st u.1), x1, x2, x3, x4, x5] rfl rfl 49 _ (bxp_z wr) (by kernel_rfl) rfl (by simpa [Value.oneCell'] using hone) ?_)
              rw [show (wr.alloc (.cells #[.string ⟨#[]⟩, .int .i64 0, .int .i64 0, .string ⟨#[]⟩, .slice none 0 0, .slice none 0 0] 49)).setRow wr.heap.size #[.string (st u.1), x1, x2, x3, x4, x5] = bxp wr #[.string (st u.1), x1, x2, x3, x4, x5] from rfl]
              generalize bxp wr #[.string (st u.1), x1, x2, x3, x4, x5] = wP at *
              have p0 : wP.cell? ⟨wr.heap.size, 0, none⟩ = some (.string (st u.1)) := by simp only [World.cell?, hat]; rfl
              have p1 : wP.cell? ⟨wr.heap.size, 1, none⟩ = some x1 := by simp only [World.cell?, hat]; rfl
              have p2 : wP.cell? ⟨wr.heap.size, 2, none⟩ = some x2 := by simp only [World.cell?, hat]; rfl
              have p3 : wP.cell? ⟨wr.heap.size, 3, none⟩ = some x3 := by simp only [World.cell?, hat]; rfl
              have p4 : wP.cell? ⟨wr.heap.size, 4, none⟩ = some x4 := by simp only [World.cell?, hat]; rfl
              have p5 : wP.cell? ⟨wr.heap.size, 5, none⟩ = some x5 := by simp only [World.cell?, hat]; rfl
              have hz1 := st_size u.1
              clear hat hone hr2 hBt hbt
              by_cases hn5 : 5000 < u.1.length
              · have hMt : M = true := by rw [hMe2.out]; exact any_stop hu (by simp [hn5])
                have g1 : (u.1.length : Int) > 5000 := by omega
                clear hc p1 p2 p3 p4 p5
                go_wp2
                go_ret
                exact ⟨by rw [hMt]; rfl, hB2.out⟩
              · have g1 : ¬ (u.1.length : Int) > 5000 := by omega
                go_wp2_with fail
                refine hc.mono ?_
                rintro e w2 ⟨rfl, b2⟩
                have hb2 := hide1 (hbn.out.trans (b2.mono hbn.out.size))
                have hB3 := hide1 (hB2.out.trans (b2.mono hB2.out.size))
                clear hc b2 p1 p2 p3 p4 p5 hbn hB2 p0 hz1
                cases hg : lgB h u.2 with
                | true =>
                  have hMt : M = true := by rw [hMe2.out]; exact any_stop hu (by simp [hg])
                  go_wp2
                  go_ret
                  exact ⟨by rw [hMt]; rfl, hB3.out⟩
                | false =>
                  have hno2 : Hid (∀ (q : Nat) (x : List UInt8 × T), q < j + 1 → p[q]? = some x → (decide (5000 < x.1.length) || lgB h x.2) = false) := hide1 (fun q x hq hx => by
                    by_cases e : q = j
                    · subst e; rw [hu] at hx; cases hx; simp [hn5, hg]
                    · exact hno.out q x (by omega) hx)
                  go_wp2
                  go_roundw
                  case rel => exact ⟨j + 1, by omega, by first | rfl | go_num, hno2, hb2⟩
                  case measure => simp [intOf]; omega
            · have hA : (p.any fun q => decide (5000 < q.1.length) || lgB h q.2) = false := any_no (fun q x hq => hno.out q x (by have h8 := (List.getElem?_eq_some_iff.1 hq).1; have h9 := e2.out; omega) hq)
              have hMf : M = false := by rw [hMe2.out, hA]
              clear hA hMe2 hno
              go_wp2
              go_ret
              exact ⟨by rw [hMf]; rfl, hBt.out⟩
theorem long_d : ∀ (h : Nat) {F : Nat → Prop} {w : World} {t : T} {c : List Value}, hgt h t → VA F w t c → Calls Tryz.prog 36 #[.agg c.toArray] w fun e w' => e = .returned (.bool (lgB h t)) ∧ Below w.heap.size w w'
  | 0, _, _, _, _, hh, _ => hh.elim
  | h + 1, _, _, _, _, hh, hv => long_s (fun h1 h2 => long_d h h1 h2) hh hv
set_option maxHeartbeats 8000000 in
set_option maxRecDepth 100000 in
theorem heavy_d {F : Nat → Prop} {w : World} {t : T} {c : List Value} (hv : VA F w t c) :
    ∃ X : Bool, (X = false → hgt 200 t ∧ lgB 200 t = false ∧ ∃ h, ht h t ∧ mny h t 200 ≤ 200) ∧ Calls Tryz.prog 19 #[.agg c.toArray] w fun e w' => e = .returned (.bool X) ∧ Below w.heap.size w w' := by
  obtain ⟨h, hht⟩ := hv.ht
  obtain ⟨n, hn⟩ : ∃ n, Hid (n = mny h t 200) := ⟨_, hide1 rfl⟩
  obtain ⟨x0, x1, x2, x3, x4, rfl⟩ := five_l hv.len
  obtain ⟨wb, hwb⟩ : ∃ wb, wb = w.alloc (.cells #[x0, x1, x2, x3, x4] 28) := ⟨_, rfl⟩
  have hB : Below w.heap.size w wb := by rw [hwb]; exact (Below.refl _ _).alloc (Nat.le_refl _) _
  have hnb : wb.heap[w.heap.size]? = some (.cells #[x0, x1, x2, x3, x4] 28 (0, 0)) := by
    rw [hwb]
    show (w.heap.push _)[w.heap.size]? = _
    rw [Array.getElem?_push, if_pos rfl]
  have hvb : VA F wb t [x0, x1, x2, x3, x4] := hv.frame (fun k _ hk => hB.block k hk) (fun _ h _ => h)
  have hm := many_d h (k := 200) hht (by omega) hvb
  replace hm : Calls Tryz.prog 35 #[.agg #[x0, x1, x2, x3, x4], .int .i64 200] wb _ := hm
  rw [← hn.out] at hm
  have hql : w.heap.size < wb.heap.size := (Array.getElem?_eq_some_iff.1 hnb).1
  have hl : ∀ wa, Below wb.heap.size wb wa → wa.heap[w.heap.size]? = some (.cells #[x0, x1, x2, x3, x4] 28 (0, 0)) := fun wa hwa => (hwa.block w.heap.size hql).trans hnb
  have hl5 : wb.rangeAt w.heap.size 0 [x0, x1, x2, x3, x4] := fun j u hj => by
    simp only [World.cell?, hnb]
    rw [Nat.zero_add]
    simpa using hj
  obtain ⟨L, hL⟩ : ∃ L, Hid (L = lgB 200 t) := ⟨_, hide1 rfl⟩
  have hd : Hid (decide ((200 : Int) < (n : Int)) = decide (200 < n)) := hide1 (decide_eq_decide.2 (by omega))
  refine ⟨decide (200 < n) || L, fun hx => ?_, ?_⟩
  · rw [Bool.or_eq_false_iff] at hx
    have h1 : ¬ 200 < n := of_decide_eq_false hx.1
    exact ⟨mny_hgt hht (by omega) (by rw [← hn.out]; omega), by rw [← hL.out]; exact hx.2, h, hht, by rw [← hn.out]; omega⟩
  · replace hB := hide1 hB
    replace hvb := hide1 hvb
    clear hv hnb
    show Calls Tryz.prog 19 #[.agg #[x0, x1, x2, x3, x4]] w _
    go_enter Tryz.func19, Tryz.ntmps19
    go_upto_region 1 with fail
    rw [← hwb]
    clear hwb
    go_wp2_with (first | refine wpList_load_mid rfl 28 (.tmp 1) rfl w.heap.size 0 rfl [x0, x1, x2, x3, x4] _ hl5 Tryz.underlying28 rfl (by kernel_rfl) ?_ | fail)
    refine hm.mono ?_
    rintro e w1 ⟨rfl, b1⟩
    have hB1 := hide1 (hB.out.trans (b1.mono hB.out.size))
    by_cases h2 : 200 < n
    · have g : (n : Int) > 200 := by omega
      have hf : Hid ((decide (200 < n) || L) = true) := hide1 (by simp [h2])
      clear hm hl5 hl hvb
      go_wp2
      go_ret
      exact ⟨by rw [hf.out]; rfl, hB1.out⟩
    · have g : ¬ (n : Int) > 200 := by omega
      have hlc := long_d 200 (mny_hgt hht (by omega) (by rw [← hn.out]; omega)) (hvb.out.frame (w' := w1) (G := fun _ => True) (fun k _ hk => b1.block k hk) (fun _ _ _ => trivial))
      replace hlc : Calls Tryz.prog 36 #[.agg #[x0, x1, x2, x3, x4]] w1 _ := hlc
      have hat := hl w1 b1
      have p0 : w1.cell? ⟨w.heap.size, 0, none⟩ = some x0 := by simp only [World.cell?, hat]; rfl
      have p1 : w1.cell? ⟨w.heap.size, 1, none⟩ = some x1 := by simp only [World.cell?, hat]; rfl
      have p2 : w1.cell? ⟨w.heap.size, 2, none⟩ = some x2 := by simp only [World.cell?, hat]; rfl
      have p3 : w1.cell? ⟨w.heap.size, 3, none⟩ = some x3 := by simp only [World.cell?, hat]; rfl
      have p4 : w1.cell? ⟨w.heap.size, 4, none⟩ = some x4 := by simp only [World.cell?, hat]; rfl
      rw [← hL.out] at hlc
      clear hm hl5 hl hvb b1 hat
      go_wp2_with fail
      refine hlc.mono ?_
      rintro e w2 ⟨rfl, b2⟩
      have hB2 := hide1 (hB1.out.trans (b2.mono hB1.out.size))
      clear hlc b2 p0 p1 p2 p3 p4
      go_wp2
      go_ret
      exact ⟨by show Ending.returned (.bool (decide ((200 : Int) < (n : Int)) || L)) = _; rw [hd.out], hB2.out⟩
theorem infoS5 : (Tryz.prog.info? 9).map (fun i => (i.zero, i.size, i.bytes)) = some (some (.string ⟨#[]⟩), 1, 16) := by kernel_rfl
theorem wpList_append_s5 {w : World} {ops : Array Oper} {rest : List Oper} {o : Oper} {a : Act} {Q : Exit → Act → World → Prop} (hgd : o.guard = none) (s x : Operand)
    (ho : o.op = .call { callee := .builtin .append, args := #[s, x], argTypes := #[47, 47] }) (base : Nat)
    (v : Value) (n : Nat) (xs : List Value) (hs : a.eval s = v) (hown : w.ownsRow base 9 1 v n xs) (b c : Nat) (t : ByteArray) (hx : a.eval x = .slice (some ⟨b, 0, none⟩) 1 c) (hb : w.cell? ⟨b, 0, none⟩ = some (.string t))
    (hbytes : n ≤ 2000000) (hbase : base ≤ w.heap.size)
    (h : ∀ v' w', w'.ownsRow base 9 1 v' (n + 1) (xs ++ [.string t]) → w.grownBy w' v.ownBlock → wpList Tryz.prog ops Q rest (a.put o.dst v') w') : wpList Tryz.prog ops Q (o :: rest) a w := by
  refine wpList_plain hgd fun K hK => ?_
  obtain ⟨i0, hi, hp⟩ := Option.map_eq_some_iff.1 infoS5
  simp only [Prod.mk.injEq] at hp
  obtain ⟨hz0, hz1, hz2⟩ := hp
  obtain ⟨v', w', hr, h4, h5, _⟩ := run_append_own (P := Tryz.prog) w base 47 o.type 9 i0 (.string ⟨#[]⟩) 1 16 Tryz.underlying47 hi hz0 hz1 hz2 rfl (by decide) v n xs hown ⟨b, 0, none⟩ 1 c [.string t] rfl
    (by intro j u hj
        cases j with
        | zero => simp at hj; subst hj; exact hb
        | succ j => simp at hj) (by intro u hu; simp at hu; subst hu; rfl) (by unfold maxLen; omega) (by omega) hbase
  unfold Oper.wp execOp
  simp only [ho, resolve, invoke, builtin, Sem.run_bind, Sem.run_pure, Result.andThen_ok, List.map_toArray, List.map_cons, List.map_nil, hs, hx, hr]
  exact hK _ _ (h v' w' h4 h5)
theorem neq_s5 {a : List UInt8} (w : World) : (binOp .neq 9 (.string (st a)) (.string (st a))).run Tryz.prog w = .ok (.bool false) w := by rw [nq_s]; simp
theorem ld_m5 {w : World} {b : Nat} {x0 x1 x2 x3 x4 : Value} (hr : w.rangeAt b 0 [x0, x1, x2, x3, x4]) : (Instr.loadAt 28 (.pointer (some ⟨b, 0, none⟩))).run Tryz.prog w = .ok (.agg #[x0, x1, x2, x3, x4]) w := ld_mV hr
def Ob5 (a : Option Addr) (n z : Nat) (e : TypeId) (W : World) : Prop := 0 < n → ∃ gb cur, a = some ⟨gb, 0, none⟩ ∧ W.heap[gb]? = some (.cells cur e (0, 0)) ∧ n * z ≤ cur.size
theorem Ob5.of {W : World} {B z n c : Nat} {e : TypeId} {a : Option Addr} {xs : List Value} (h : W.ownsRow B e z (.slice a n c) n xs) : Ob5 a n z e W := fun hn => by
  obtain ⟨_, ⟨_, h0⟩ | ⟨g, cap, cur, hv, hB, hg, hcap, hm, hcs, htk⟩⟩ := h
  · omega
  · cases hv
    exact ⟨g, cur, rfl, hg, by rw [hcs]; exact Nat.mul_le_mul_right z hcap⟩
theorem Ob5.keep {W W' : World} {a : Option Addr} {n z : Nat} {e : TypeId} (h : Ob5 a n z e W) (hk : ∀ gb o, a = some ⟨gb, o, none⟩ → W'.heap[gb]? = W.heap[gb]?) : Ob5 a n z e W' := fun hn => by
  obtain ⟨gb, cur, e1, e2, e3⟩ := h hn
  exact ⟨gb, cur, e1, (hk gb 0 e1).trans e2, e3⟩
theorem setCell_gb {W : World} {gb o : Nat} {cur : Array Value} {e : TypeId} {v : Value} (h : W.heap[gb]? = some (.cells cur e (0, 0))) : (W.setCell ⟨gb, o, none⟩ v).heap[gb]? = some (.cells (cur.setIfInBounds o v) e (0, 0)) ∧ ∀ k, k ≠ gb → (W.setCell ⟨gb, o, none⟩ v).heap[k]? = W.heap[k]? := by
  rw [setCell_eq_setRow W gb o cur e (0, 0) v h]
  exact ⟨setRow_heap W gb _ _ _ _ h, fun k hk => setRow_other W gb k _ hk⟩
theorem grown_setCell {W W1 : World} {gb o : Nat} {v : Value} {r : Option Nat} (h : W.grownBy W1 r) (hr : r = some gb) (hk : ∀ k, k ≠ gb → (W1.setCell ⟨gb, o, none⟩ v).heap[k]? = W1.heap[k]?) : W.grownBy (W1.setCell ⟨gb, o, none⟩ v) r :=
  ⟨h.os, h.tape, h.output, by have := h.size; simpa using this, fun k h1 h2 => (hk k (fun e => h2 (by rw [hr, e]))).trans (h.block k h1 h2)⟩
theorem va_lens {F : Nat → Prop} {w : World} {h : Nat} {t : T} {k ki : Int} {s : List UInt8} {a b : Option Addr} {n m ca cb : Nat} (hh : hgt h t) (hv : VA F w t [.int .i64 k, .int .i64 ki, .string (st s), .slice a n ca, .slice b m cb]) : n ≤ 1000000 ∧ m ≤ 1000000 := by
  generalize hc : [Value.int .i64 k, .int .i64 ki, .string (st s), .slice a n ca, .slice b m cb] = c at hv
  cases hv with
  | mk r1 r2 e1 e2 hl hp1 hp2 =>
    simp only [List.cons.injEq, and_true] at hc
    obtain ⟨_, _, _, g4, g5⟩ := hc
    cases h with
    | zero => exact hh.elim
    | succ h =>
      obtain ⟨b1, b2, _⟩ := hh
      obtain ⟨a1, c1, f1⟩ := r1.slc
      obtain ⟨a2, c2, f2⟩ := r2.slc
      rw [f1] at g4
      rw [f2] at g5
      cases g4; cases g5
      omega
theorem own_name {W : World} {B n c : Nat} {a : Option Addr} {xs : List Value} (h : W.ownsRow B 9 1 (.slice a n c) n xs) {i : Nat} {v : Value} (hi : xs[i]? = some v) (hn : i < n) : ∃ g, a = some ⟨g, 0, none⟩ ∧ B ≤ g ∧ g < W.heap.size ∧ W.cell? ⟨g, i, none⟩ = some v := by
  obtain ⟨hl, ⟨_, h0⟩ | ⟨g, cap, cur, hv, hB, hg, hcap, hm, hcs, htk⟩⟩ := h
  · omega
  · cases hv
    refine ⟨g, rfl, hB, (Array.getElem?_eq_some_iff.1 hg).1, ?_⟩
    have h1 : (cur.toList.take (n * 1))[i]? = some v := by rw [htk]; exact hi
    rw [List.getElem?_take, if_pos (by omega)] at h1
    simp only [World.cell?, hg]
    simpa using h1
theorem grown_refl (W : World) (r : Option Nat) : W.grownBy W r := ⟨rfl, rfl, rfl, Nat.le_refl _, fun _ _ _ => rfl⟩
theorem ix_s5 {g n cap k : Nat} (hk : k < n) (w : World) : (Instr.indexAt 47 (.slice (some ⟨g, 0, none⟩) n cap) (.int .i64 (k : Nat))).run Tryz.prog w = .ok (.pointer (some ⟨g, k, none⟩)) w := by
  by_cases h0 : k = 0
  · subst h0
    simp [Instr.indexAt, go_sem, Addr.add, hk]
  · simp [Instr.indexAt, go_sem, Addr.add, hk, h0]
set_option maxHeartbeats 16000000 in
set_option maxRecDepth 100000 in
theorem sorts_walk {w : World} {t : T} {c : Array Value} (hv : VB (· < w.heap.size) w t c.toList) (hT : Ev w) (h8 : 8 ≤ w.heap.size) : Calls Tryz.prog 5 #[.agg c] w fun e w' => e = .returned (.bool true) ∧ Below w.heap.size w w' := by
  have hv0 := hv
  generalize hcl : c.toList = c' at hv
  cases hv with
  | @mk k ki s l p sl sp cl cp r1 r2 e1 e2 hl hp1 hp2 a1 a2 =>
    obtain ⟨sa, scap, rfl⟩ := r1.slc
    obtain ⟨pa, pcap, rfl⟩ := r2.slc
    obtain rfl : c = #[.int .i64 k, .int .i64 ki, .string (st s), .slice sa cl.length scap, .slice pa cp.length pcap] := by cases c; simp at hcl; simp [hcl]
    replace hv0 : VB (· < w.heap.size) w (.mk k ki s l p) [.int .i64 k, .int .i64 ki, .string (st s), .slice sa cl.length scap, .slice pa cp.length pcap] := hv0
    clear hcl hl a1 a2
    obtain ⟨wb, hwb⟩ : ∃ wb, wb = w.alloc (.cells #[.int .i64 k, .int .i64 ki, .string (st s), .slice sa cl.length scap, .slice pa cp.length pcap] 28) := ⟨_, rfl⟩
    have hB : Below w.heap.size w wb := by rw [hwb]; exact (Below.refl _ _).alloc (Nat.le_refl _) _
    have hnb : wb.heap[w.heap.size]? = some (.cells #[.int .i64 k, .int .i64 ki, .string (st s), .slice sa cl.length scap, .slice pa cp.length pcap] 28 (0, 0)) := by
      rw [hwb]
      show (w.heap.push _)[w.heap.size]? = _
      rw [Array.getElem?_push, if_pos rfl]
    have hql : w.heap.size < wb.heap.size := (Array.getElem?_eq_some_iff.1 hnb).1
    have hTb := hT.below hB (by omega)
    have hal := alive_c hTb (by omega)
    have hvf : Hid (∀ wa, Below w.heap.size w wa → VB (· < w.heap.size) wa (.mk k ki s l p) [.int .i64 k, .int .i64 ki, .string (st s), .slice sa cl.length scap, .slice pa cp.length pcap]) := hide1 (fun wa hwa => VB.frame (c := [.int .i64 k, .int .i64 ki, .string (st s), .slice sa cl.length scap, .slice pa cp.length pcap]) hv0 (w' := wa) (G := (· < w.heap.size)) (fun k hk _ => hwa.block k hk) (fun _ h _ => h))
    have hl : Hid (∀ wa, Below wb.heap.size wb wa → wa.rangeAt w.heap.size 0 [.int .i64 k, .int .i64 ki, .string (st s), .slice sa cl.length scap, .slice pa cp.length pcap]) := hide1 (fun wa hwa j u hj => by
      have hx := (hwa.block w.heap.size hql).trans hnb
      simp only [World.cell?, hx]
      rw [Nat.zero_add]
      simpa using hj)
    replace hTb := hide1 hTb
    replace hB := hide1 hB
    replace e1 := hide1 e1
    replace e2 := hide1 e2
    clear hv0 hT
    go_enter Tryz.func5, Tryz.ntmps5
    go_upto_region 1 with fail
    rw [← hwb]
    clear hwb
    go_wp2_with fail
    refine hal.mono ?_
    rintro e w1 ⟨rfl, b1⟩
    have g1 : Hid (Below wb.heap.size wb w1) := hide1 b1
    have B1 := hide1 (hB.out.trans (b1.mono hB.out.size))
    have hl1 := hl.out w1 b1
    obtain ⟨X, hX, hhv⟩ := heavy_d (hvf.out w1 B1.out).va
    replace hhv : Calls Tryz.prog 19 #[.agg #[.int .i64 k, .int .i64 ki, .string (st s), .slice sa cl.length scap, .slice pa cp.length pcap]] w1 _ := hhv
    clear hal b1
    go_wp2_with (first | refine wpList_load_mid rfl 28 (.tmp 1) rfl w.heap.size 0 rfl [.int .i64 k, .int .i64 ki, .string (st s), .slice sa cl.length scap, .slice pa cp.length pcap] _ hl1 Tryz.underlying28 rfl (by kernel_rfl) ?_ | fail)
    refine hhv.mono ?_
    rintro e w2 ⟨rfl, b2⟩
    have g2 := hide1 (g1.out.trans (b2.mono g1.out.size))
    have B2 := hide1 (B1.out.trans (b2.mono B1.out.size))
    clear hhv b2 hl1 g1 B1
    cases X with
    | true =>
      go_wp2
      go_ret
      exact ⟨rfl, B2.out⟩
    | false =>
      obtain ⟨q1, -, -⟩ := hX rfl
      have hl2 := hl.out w2 g2.out
      have hFw : ∀ wa, Below w.heap.size w wa → ∀ k, k < w.heap.size → k < wa.heap.size := fun wa hwa k hk => Nat.lt_of_lt_of_le hk hwa.size
      have hrs := rs_d 8 0 (by omega) q1 (hvf.out w2 B2.out).va (hFw w2 B2.out)
      replace hrs : Calls Tryz.prog 23 #[.agg #[.int .i64 k, .int .i64 ki, .string (st s), .slice sa cl.length scap, .slice pa cp.length pcap], .int .i64 0] w2 _ := hrs
      clear hX
      go_wp2_with (first | refine wpList_load_mid rfl 28 (.tmp 1) rfl w.heap.size 0 rfl [.int .i64 k, .int .i64 ki, .string (st s), .slice sa cl.length scap, .slice pa cp.length pcap] _ hl2 Tryz.underlying28 rfl (by kernel_rfl) ?_ | fail)
      refine hrs.mono ?_
      rintro e w3 ⟨c3, rfl, h5, b3, hv3⟩
      obtain ⟨y0, y1, y2, y3, y4, hce⟩ := five_l (l := c3.toList) (by simpa using h5)
      obtain rfl : c3 = #[y0, y1, y2, y3, y4] := by cases c3; simp at hce; simp [hce]
      have g3 := hide1 (g2.out.trans (b3.mono g2.out.size))
      have B3 := hide1 (B2.out.trans (b3.mono B2.out.size))
      have hv3o := hv3.one
      obtain ⟨N1, hN1⟩ : ∃ N, Hid (N = w2.heap.size) := ⟨_, hide1 rfl⟩
      replace hv3 : VA (fun k => k < w.heap.size ∨ N1 ≤ k) w3 (so 8 (.mk k ki s l p)) [y0, y1, y2, y3, y4] := by rw [hN1.out]; exact hv3
      have hN13 : Hid (w.heap.size ≤ N1 ∧ N1 ≤ w3.heap.size) := hide1 (by rw [hN1.out]; exact ⟨B2.out.size, b3.size⟩)
      replace hv3 := hide1 hv3
      clear hrs b3 g2 hce h5 hl2 hN1
      have hz4 : (w3.alloc (.cells #[.int .i64 0, .int .i64 0, .string ⟨#[]⟩, .slice none 0 0, .slice none 0 0] 28)).heap[w3.heap.size]? = some (.cells #[.int .i64 0, .int .i64 0, .string ⟨#[]⟩, .slice none 0 0, .slice none 0 0] 28 (0, 0)) := new_at w3 _ _
      obtain ⟨w4, hw4⟩ : ∃ w4, w4 = (w3.alloc (.cells #[.int .i64 0, .int .i64 0, .string ⟨#[]⟩, .slice none 0 0, .slice none 0 0] 28)).setRow w3.heap.size #[y0, y1, y2, y3, y4] := ⟨_, rfl⟩
      have b4 : Below w3.heap.size w3 w4 := by rw [hw4]; exact blw_own (below_al _) (Nat.le_refl _) _
      have hn4 : w4.heap[w3.heap.size]? = some (.cells #[y0, y1, y2, y3, y4] 28 (0, 0)) := by rw [hw4]; exact setRow_heap _ _ _ _ _ _ hz4
      obtain ⟨w5, hw5⟩ : ∃ w5, w5 = w4.alloc (.cells #[] 9) := ⟨_, rfl⟩
      have b5 : Below w4.heap.size w4 w5 := by rw [hw5]; exact below_al _
      have hs4 : w3.heap.size < w4.heap.size := (Array.getElem?_eq_some_iff.1 hn4).1
      have hn5 : Hid (w5.heap[w3.heap.size]? = some (.cells #[y0, y1, y2, y3, y4] 28 (0, 0))) := hide1 ((b5.block _ hs4).trans hn4)
      have hrow5 : Hid (w5.ownsRow w4.heap.size 9 1 (.slice (some ⟨w4.heap.size, 0, none⟩) 0 0) 0 []) := hide1 ⟨rfl, .inr ⟨w4.heap.size, 0, #[], rfl, Nat.le_refl _, by rw [hw5]; exact new_at _ _ _, Nat.le_refl _, by unfold maxLen; omega, rfl, rfl⟩⟩
      have b35 : Below w3.heap.size w3 w5 := b4.trans (b5.mono b4.size)
      have g5 := hide1 (g3.out.trans (b35.mono g3.out.size))
      have B5 := hide1 (B3.out.trans (b35.mono B3.out.size))
      have hs45 : Hid (w4.heap.size ≤ w5.heap.size ∧ w3.heap.size < w4.heap.size) := hide1 ⟨b5.size, hs4⟩
      have hv5 : Hid (VA (fun k => k < w.heap.size ∨ (N1 ≤ k ∧ k < w3.heap.size)) w5 (so 8 (.mk k ki s l p)) [y0, y1, y2, y3, y4]) := hide1 (VA.frame (c := [y0, y1, y2, y3, y4]) hv3.out (fun k _ hs => b35.block k hs) (fun k hk hs => hk.imp id fun h => ⟨h, hs⟩))
      have hwb3 : Hid (wb.heap.size ≤ w3.heap.size) := hide1 g3.out.size
      clear b4 b5 b35 hn4 hs4 hv3
      go_upto_region 6 with (refine wpList_store_row rfl 28 (.tmp 3) (.tmp 17) rfl w3.heap.size #[y0, y1, y2, y3, y4] rfl rfl 28 _ hz4 (by kernel_rfl) rfl (by simpa using hv3o) ?_)
      rw [← hw4]
      clear hw4 hz4
      go_upto_region 7 with fail
      rw [← hw5]
      clear hw5
      have c4 : w5.cell? ⟨w.heap.size, 4, none⟩ = some (.slice pa cp.length pcap) := hl.out w5 g5.out 4 _ rfl
      have hcp9 : cp.length ≤ 1000000 := by
        have h1 : p.length ≤ 1000000 := q1.2.1
        have := e2.out
        omega
      go_wp2_with fail
      go_loopw [4, 22] (fun v x wr => ∃ i : Nat, x = .int .i64 (i : Nat) ∧ i ≤ cp.length ∧ Hid (Below w4.heap.size w5 wr) ∧ Hid (wr.ownsRow w4.heap.size 9 1 v i ((p.take i).map fun q => Value.string (st q.1)))) (fun _ x _ => cp.length - (intOf x).toNat)
      case atStart => exact ⟨0, rfl, by omega, hide1 (Below.refl _ _), hrow5⟩
      case round =>
        clear hrow5 c4
        obtain ⟨i, rfl, hin, hbr, hrw⟩ := hrel
        have hNr : w4.heap.size ≤ wr.heap.size := Nat.le_trans hs45.out.1 hbr.out.size
        have hwr : Hid (∀ k, k < w.heap.size → wr.heap[k]? = w.heap[k]?) := hide1 fun k hk => (hbr.out.block k (by have := hN13.out; have := hs45.out; omega)).trans (B5.out.block k hk)
        by_cases hlt : i < cp.length
        · obtain ⟨x, hx⟩ : ∃ x, cp[i]? = some x := ⟨_, List.getElem?_eq_getElem hlt⟩
          obtain ⟨q, hq⟩ : ∃ q, p[i]? = some q := ⟨_, List.getElem?_eq_getElem (by have := e2.out; omega)⟩
          have hxn := hp1 i q x hq hx
          have hxv := (hp2 i q x hq hx).va
          have r2b : RwA (· < w.heap.size) wr 49 6 (.slice pa cp.length pcap) cp := r2.frame (fun k hk _ => hwr.out k hk) (fun _ h _ => h)
          obtain ⟨gb, o, cap, hve, hFg, hgl, hr⟩ := r2b.at hx
          obtain ⟨rfl, rfl⟩ : pa = some ⟨gb, o, none⟩ ∧ pcap = cap := by cases hve; exact ⟨rfl, rfl⟩
          obtain ⟨x0, x1, x2, x3, x4, x5, rfl⟩ := arr6 (r2.1 x (List.mem_of_getElem? hx))
          obtain rfl : x0 = .string (st q.1) := by simpa using hxn
          have hone : (#[.string (st q.1), x1, x2, x3, x4, x5] : Array Value).all (·.oneCell') = true := by
            have h1 := hxv.one
            simpa [Value.oneCell'] using h1
          have hz6 : (wr.alloc (.cells #[.string ⟨#[]⟩, .int .i64 0, .int .i64 0, .string ⟨#[]⟩, .slice none 0 0, .slice none 0 0] 49)).heap[wr.heap.size]? = some (.cells #[.string ⟨#[]⟩, .int .i64 0, .int .i64 0, .string ⟨#[]⟩, .slice none 0 0, .slice none 0 0] 49 (0, 0)) := new_at wr _ _
          obtain ⟨wA, hwA⟩ : ∃ wA, wA = (wr.alloc (.cells #[.string ⟨#[]⟩, .int .i64 0, .int .i64 0, .string ⟨#[]⟩, .slice none 0 0, .slice none 0 0] 49)).setRow wr.heap.size #[.string (st q.1), x1, x2, x3, x4, x5] := ⟨_, rfl⟩
          have bA : Below wr.heap.size wr wA := by rw [hwA]; exact blw_own (below_al _) (Nat.le_refl _) _
          have hnA : wA.heap[wr.heap.size]? = some (.cells #[.string (st q.1), x1, x2, x3, x4, x5] 49 (0, 0)) := by rw [hwA]; exact setRow_heap _ _ _ _ _ _ hz6
          have cA : wA.cell? ⟨wr.heap.size, 0, none⟩ = some (.string (st q.1)) := by simp only [World.cell?, hnA]; rfl
          obtain ⟨wB, hwB⟩ : ∃ wB, wB = wA.alloc (.cells #[.string (st q.1)] 9) := ⟨_, rfl⟩
          have bB : Below wA.heap.size wA wB := by rw [hwB]; exact below_al _
          have cB : wB.cell? ⟨wA.heap.size, 0, none⟩ = some (.string (st q.1)) := by rw [hwB]; simp only [World.cell?, new_at]; rfl
          have bAB := hide1 (bA.trans (bB.mono bA.size))
          have hrB : wB.ownsRow w4.heap.size 9 1 u4 i ((p.take i).map fun q => Value.string (st q.1)) := own_kept hrw.out fun b e => bAB.out.block b (hrw.out.lt b e).2
          replace hwB := hide1 hwB
          have hnext : (p.take i).map (fun q => Value.string (st q.1)) ++ [.string (st q.1)] = (p.take (i + 1)).map fun q => Value.string (st q.1) := by
            rw [List.take_add_one, hq, List.map_append]; rfl
          have hBs : w4.heap.size ≤ wB.heap.size := Nat.le_trans hNr bAB.out.size
          clear bA bB hnA hve hxn hxv r2b
          go_upto_region 10 with (first
            | refine wpList_load_mid rfl 49 (.tmp 24) rfl gb (o + i * 6) rfl [.string (st q.1), x1, x2, x3, x4, x5] _ hr Tryz.underlying49 rfl (by kernel_rfl) ?_
            | refine wpList_store_row rfl 49 (.tmp 6) (.tmp 25) rfl wr.heap.size #[.string (st q.1), x1, x2, x3, x4, x5] rfl rfl 49 _ hz6 (by kernel_rfl) rfl hone ?_)
          rw [← hwA]
          clear hz6 hr hone hwA
          go_upto_region 11 with (at_builtin; rw [← hwB.out]; refine wpList_append_s5 rfl (.tmp 26) (.tmp 29) rfl w4.heap.size u4 i _ rfl hrB wA.heap.size 1 (st q.1) rfl cB (by omega) hBs ?_; intro v' w' hrow' hg')
          rw [hnext] at hrow'
          have hb' : Hid (Below w4.heap.size w5 w') := hide1 (by
            have h1 := hbr.out.trans (bAB.out.mono hNr)
            exact ⟨hg'.os.trans h1.os, hg'.tape.trans h1.tape, hg'.output.trans h1.output, Nat.le_trans h1.size hg'.size, fun k hk => (hg'.block k (by omega) (fun e => by have := (hrB.lt k e.symm).1; omega)).trans (h1.block k hk)⟩)
          replace hrow' := hide1 hrow'
          clear hwB cA cB bAB hrB hg' hBs hnext hbr hrw
          go_wp2
          go_roundw
          case rel => exact ⟨i + 1, rfl, by omega, hb', hrow'⟩
          case measure => simp [intOf]; omega
        · have hie : i = cp.length := by omega
          subst hie
          rw [List.take_of_length_le (by have := e2.out; omega)] at hrw
          have h34 := hs45.out
          have hb3 := hwb3.out
          have h13 := hN13.out
          have g6 := hide1 (g5.out.trans (hbr.out.mono (by omega)))
          have B6 := hide1 (B5.out.trans (hbr.out.mono (by omega)))
          have hv6 : Hid (VA (fun k => k < w.heap.size ∨ (N1 ≤ k ∧ k < w3.heap.size)) wr (so 8 (.mk k ki s l p)) [y0, y1, y2, y3, y4]) := hide1 (VA.frame (c := [y0, y1, y2, y3, y4]) hv5.out (fun k hk _ => hbr.out.block k (by rcases hk with h | h <;> omega)) (fun _ h _ => h))
          have hn6 : Hid (wr.heap[w3.heap.size]? = some (.cells #[y0, y1, y2, y3, y4] 28 (0, 0))) := hide1 ((hbr.out.block _ h34.2).trans hn5.out)
          have hn6l : w3.heap.size < wr.heap.size := (Array.getElem?_eq_some_iff.1 hn6.out).1
          have hl6 := hl.out wr g6.out
          have hso := srt_5 q1 (hvf.out wr B6.out) (hFw wr B6.out)
          replace hso : Calls Tryz.prog 24 #[.agg #[.int .i64 k, .int .i64 ki, .string (st s), .slice sa cl.length scap, .slice pa cp.length pcap]] wr _ := hso
          obtain ⟨na, ncap, rfl⟩ : ∃ a cap, u4 = .slice a cp.length cap := by
            obtain ⟨_, ⟨h1, h2⟩ | ⟨g, cap, cur, h1, _⟩⟩ := hrw.out
            · exact ⟨none, 0, by rw [h2]; exact h1⟩
            · exact ⟨_, _, h1⟩
          clear hv5 hn5 g5 B5 hbr hwr hin hNr hs45 hwb3 hN13
          go_wp2_with (first | refine wpList_load_mid rfl 28 (.tmp 1) rfl w.heap.size 0 rfl [.int .i64 k, .int .i64 ki, .string (st s), .slice sa cl.length scap, .slice pa cp.length pcap] _ hl6 Tryz.underlying28 rfl (by kernel_rfl) ?_ | fail)
          refine hso.mono ?_
          rintro e w6 ⟨k', ki', s', sl', sp', xl, xp, rfl, b6, ⟨o1, o1l⟩, ⟨o2, o2l⟩, hvw⟩
          obtain ⟨la, lcap, rfl⟩ : ∃ a cap, sl' = .slice a xl.length cap := by
            obtain ⟨_, ⟨h1, h2⟩ | ⟨g, cap, cur, h1, _⟩⟩ := o1
            · exact ⟨none, 0, by rw [h2]; exact h1⟩
            · exact ⟨_, _, h1⟩
          obtain ⟨ya, ycap, rfl⟩ : ∃ a cap, sp' = .slice a xp.length cap := by
            obtain ⟨_, ⟨h1, h2⟩ | ⟨g, cap, cur, h1, _⟩⟩ := o2
            · exact ⟨none, 0, by rw [h2]; exact h1⟩
            · exact ⟨_, _, h1⟩
          obtain ⟨w7, hw7⟩ : ∃ w7, w7 = w6.alloc (.cells #[.int .i64 k', .int .i64 ki', .string (st s'), .slice la xl.length lcap, .slice ya xp.length ycap] 28) := ⟨_, rfl⟩
          have b7 : Below w6.heap.size w6 w7 := by rw [hw7]; exact below_al _
          have hn7 : w7.heap[w6.heap.size]? = some (.cells #[.int .i64 k', .int .i64 ki', .string (st s'), .slice la xl.length lcap, .slice ya xp.length ycap] 28 (0, 0)) := by rw [hw7]; exact new_at _ _ _
          have b67 : Hid (Below wr.heap.size wr w7) := hide1 (b6.trans (b7.mono b6.size))
          have hex := ex_d 200 (F := fun _ => True) (G := fun _ => True) (w := w7) (so_hgt 8 q1) (VA.frame (c := [.int .i64 k', .int .i64 ki', .string (st s'), .slice la xl.length lcap, .slice ya xp.length ycap]) hvw (fun k _ hs => b7.block k hs) (fun _ _ _ => trivial)) (VA.frame (c := [y0, y1, y2, y3, y4]) hv6.out (w' := w7) (fun k _ hs => b67.out.block k hs) (fun _ _ _ => trivial))
          rw [(exB_eq (hgt_ht (so_hgt 8 q1))).2 rfl] at hex
          replace hex : Calls Tryz.prog 16 #[.agg #[.int .i64 k', .int .i64 ki', .string (st s'), .slice la xl.length lcap, .slice ya xp.length ycap], .agg #[y0, y1, y2, y3, y4]] w7 _ := hex
          have o17 : Hid (w7.ownsRow wr.heap.size 28 5 (.slice la xl.length lcap) xl.length xl.flatten) := hide1 (own_kept o1 fun b e => b7.block b (o1.lt b e).2)
          have o27 : Hid (w7.ownsRow wr.heap.size 49 6 (.slice ya xp.length ycap) xp.length xp.flatten) := hide1 (own_kept o2 fun b e => b7.block b (o2.lt b e).2)
          have hlm1 : Hid (∀ b, (Value.slice la xl.length lcap).ownBlock = some b → wr.heap.size ≤ b ∧ b < w6.heap.size) := hide1 fun b e => o1.lt b e
          have hlm2 : Hid (∀ b, (Value.slice ya xp.length ycap).ownBlock = some b → wr.heap.size ≤ b ∧ b < w6.heap.size) := hide1 fun b e => o2.lt b e
          have hr67 : Hid (wr.heap.size ≤ w6.heap.size) := hide1 b6.size
          have hl7 : w7.rangeAt w6.heap.size 0 [.int .i64 k', .int .i64 ki', .string (st s'), .slice la xl.length lcap, .slice ya xp.length ycap] := fun j u hj => by
            simp only [World.cell?, hn7]
            rw [Nat.zero_add]
            simpa using hj
          have hl37 : w7.rangeAt w3.heap.size 0 [y0, y1, y2, y3, y4] := fun j u hj => by
            have hx := (b67.out.block _ hn6l).trans hn6.out
            simp only [World.cell?, hx]
            rw [Nat.zero_add]
            simpa using hj
          replace hn7 := hide1 hn7
          obtain ⟨hxl9, hxp9⟩ := va_lens (so_hgt 8 q1) hvw
          clear hso b6 b7 o1 o2 hvw hl6 o1l o2l h34 hb3 h13
          go_upto_region 13 with fail
          rw [← hw7]
          clear hw7
          go_wp2_with (first
            | refine wpList_load_mid rfl 28 (.tmp 7) rfl w6.heap.size 0 rfl [.int .i64 k', .int .i64 ki', .string (st s'), .slice la xl.length lcap, .slice ya xp.length ycap] _ hl7 Tryz.underlying28 rfl (by kernel_rfl) ?_
            | refine wpList_load_mid rfl 28 (.tmp 3) rfl w3.heap.size 0 rfl [y0, y1, y2, y3, y4] _ hl37 Tryz.underlying28 rfl (by kernel_rfl) ?_
            | fail)
          refine hex.mono ?_
          rintro e w8 ⟨rfl, b8⟩
          have hs7 : w6.heap.size < w7.heap.size := (Array.getElem?_eq_some_iff.1 hn7.out).1
          have hn8 : Hid (w8.heap[w6.heap.size]? = some (.cells #[.int .i64 k', .int .i64 ki', .string (st s'), .slice la xl.length lcap, .slice ya xp.length ycap] 28 (0, 0))) := hide1 ((b8.block _ hs7).trans hn7.out)
          have b68 : Hid (Below wr.heap.size wr w8) := hide1 (b67.out.trans (b8.mono b67.out.size))
          have G1 : Hid (Ob5 ya xp.length 6 49 w8) := hide1 (Ob5.of (own_kept o27.out fun b e => b8.block b (by have := hlm2.out b e; omega)))
          have G2 : Hid (Ob5 la xl.length 5 28 w8) := hide1 (Ob5.of (own_kept o17.out fun b e => b8.block b (by have := hlm1.out b e; omega)))
          have hs8 : Hid (w6.heap.size < w8.heap.size) := hide1 (Nat.lt_of_lt_of_le hs7 b8.size)
          have c84 : w8.cell? ⟨w6.heap.size, 4, none⟩ = some (.slice ya xp.length ycap) := by simp only [World.cell?, hn8.out]; rfl
          -- the two rows are two blocks
          have hne : Hid (∀ b, (Value.slice ya xp.length ycap).ownBlock = some b → (Value.slice la xl.length lcap).ownBlock = some b → xp.length = 0 ∨ xl.length = 0) := hide1 fun b f1 f2 => by
            rcases Nat.eq_zero_or_pos xp.length with h | h
            · exact .inl h
            rcases Nat.eq_zero_or_pos xl.length with h' | h'
            · exact .inr h'
            obtain ⟨g1, cur1, r1, r2, _⟩ := G1.out h
            obtain ⟨g2, cur2, r3, r4, _⟩ := G2.out h'
            subst r1 r3
            simp only [Value.ownBlock, Option.some.injEq] at f1 f2
            subst f1
            rw [f2, r2] at r4
            simp at r4
          obtain ⟨R1, hR1, hR1n⟩ : ∃ R : Option Nat, Hid (∀ b, R = some b → wr.heap.size ≤ b ∧ b < w6.heap.size ∧ xp.length ≠ 0 ∧ (Value.slice ya xp.length ycap).ownBlock = some b) ∧ Hid (xp.length ≠ 0 → R = (Value.slice ya xp.length ycap).ownBlock) := by
            by_cases h0 : xp.length = 0
            · exact ⟨none, hide1 (fun b e => by cases e), hide1 (fun h => absurd h0 h)⟩
            · exact ⟨_, hide1 (fun b e => ⟨(hlm2.out b e).1, (hlm2.out b e).2, h0, e⟩), hide1 (fun _ => rfl)⟩
          obtain ⟨R2, hR2, hR2n⟩ : ∃ R : Option Nat, Hid (∀ b, R = some b → wr.heap.size ≤ b ∧ b < w6.heap.size ∧ xl.length ≠ 0 ∧ (Value.slice la xl.length lcap).ownBlock = some b) ∧ Hid (xl.length ≠ 0 → R = (Value.slice la xl.length lcap).ownBlock) := by
            by_cases h0 : xl.length = 0
            · exact ⟨none, hide1 (fun b e => by cases e), hide1 (fun h => absurd h0 h)⟩
            · exact ⟨_, hide1 (fun b e => ⟨(hlm1.out b e).1, (hlm1.out b e).2, h0, e⟩), hide1 (fun _ => rfl)⟩
          clear hex hl7 hl37 b8 hs7 o17 o27 b67
          obtain ⟨wn, rfl⟩ : ∃ x, x = wr := ⟨_, rfl⟩
          go_wp2_with fail
          go_loopw [41] (fun x wr => ∃ i : Nat, x = .int .i64 (i : Nat) ∧ i ≤ xp.length ∧ Hid (w8.grownBy wr R1) ∧ Hid (Ob5 ya xp.length 6 49 wr)) (fun x _ => xp.length - (intOf x).toNat)
          case atStart => exact ⟨0, rfl, by omega, hide1 (grown_refl _ _), G1⟩
          case round =>
            clear G1 c84
            obtain ⟨i, rfl, hin, hg, hG⟩ := hrel
            have hn9 : wr.heap[w6.heap.size]? = some (.cells #[.int .i64 k', .int .i64 ki', .string (st s'), .slice la xl.length lcap, .slice ya xp.length ycap] 28 (0, 0)) := (hg.out.block _ hs8.out (fun e => by have := (hR1.out _ e.symm).2.1; omega)).trans hn8.out
            have c94 : wr.cell? ⟨w6.heap.size, 4, none⟩ = some (.slice ya xp.length ycap) := by simp only [World.cell?, hn9]; rfl
            have c93 : wr.cell? ⟨w6.heap.size, 3, none⟩ = some (.slice la xl.length lcap) := by simp only [World.cell?, hn9]; rfl
            by_cases hlt : i < xp.length
            · obtain ⟨gb, cur, rfl, hgb, hcz⟩ := hG.out (by omega)
              have hoff : i * 6 < cur.size := by omega
              obtain ⟨u, hcc⟩ : ∃ u, wr.cell? ⟨gb, i * 6, none⟩ = some u := ⟨cur[i * 6], by simp [World.cell?, hgb, hoff]⟩
              have hcf : wr.frozen? ⟨gb, i * 6, none⟩ = false := by simp [World.frozen?, hgb]
              obtain ⟨k1, k2⟩ := setCell_gb (o := i * 6) (v := .string ⟨#[99, 104, 97, 110, 103, 101, 100]⟩) hgb
              have hg' := hide1 (grown_setCell hg.out (hR1n.out (by omega)) k2)
              have hG' : Hid (Ob5 (some ⟨gb, 0, none⟩) xp.length 6 49 (wr.setCell ⟨gb, i * 6, none⟩ (.string ⟨#[99, 104, 97, 110, 103, 101, 100]⟩))) := hide1 fun _ => ⟨gb, _, rfl, k1, by simpa using hcz⟩
              clear hn9 hgb k1 k2 hG hg c93 hoff
              go_upto_region 19 with fail
              generalize wr.setCell ⟨gb, i * 6, none⟩ (.string ⟨#[99, 104, 97, 110, 103, 101, 100]⟩) = w9 at *
              clear hcc hcf c94
              go_wp2
              go_roundw
              case rel => exact ⟨i + 1, rfl, by omega, hg', hG'⟩
              case measure => simp [intOf]; omega
            · have G29 : Hid (Ob5 la xl.length 5 28 wr) := hide1 fun hn => by
                obtain ⟨g2, cur2, f1, f2, f3⟩ := G2.out hn
                refine ⟨g2, cur2, f1, (hg.out.block g2 (Array.getElem?_eq_some_iff.1 f2).1 (fun e => ?_)).trans f2, f3⟩
                obtain ⟨_, _, h3, h4⟩ := hR1.out g2 e.symm
                rcases hne.out g2 h4 (by rw [f1]; rfl) with h | h <;> omega
              have hn9' := hide1 hn9
              have hg9 : Hid (∀ k, k < wn.heap.size → wr.heap[k]? = wn.heap[k]?) := hide1 fun k hk => (hg.out.block k (Nat.lt_of_lt_of_le hk b68.out.size) (fun e => by have := (hR1.out k e.symm).1; omega)).trans (b68.out.block k hk)
              have hs9 : Hid (w6.heap.size < wr.heap.size ∧ wn.heap.size ≤ wr.heap.size ∧ wr.os = wn.os ∧ wr.tape = wn.tape ∧ wr.output = wn.output) := hide1 ⟨Nat.lt_of_lt_of_le hs8.out hg.out.size, Nat.le_trans b68.out.size hg.out.size, hg.out.os.trans b68.out.os, hg.out.tape.trans b68.out.tape, hg.out.output.trans b68.out.output⟩
              clear hG hg hn9 hn8 b68 G2 hs8 hne hR1 hR1n c94
              go_wp2_with fail
              obtain ⟨w9, rfl⟩ : ∃ x, x = wr := ⟨_, rfl⟩
              go_loopw [53] (fun x wr => ∃ i : Nat, x = .int .i64 (i : Nat) ∧ i ≤ xl.length ∧ Hid (w9.grownBy wr R2) ∧ Hid (Ob5 la xl.length 5 28 wr)) (fun x _ => xl.length - (intOf x).toNat)
              case atStart => exact ⟨0, rfl, by omega, hide1 (grown_refl _ _), G29⟩
              case round =>
                clear G29 c93
                obtain ⟨i, rfl, hin, hg, hG⟩ := hrel
                have hnA : wr.heap[w6.heap.size]? = some (.cells #[.int .i64 k', .int .i64 ki', .string (st s'), .slice la xl.length lcap, .slice ya xp.length ycap] 28 (0, 0)) := (hg.out.block _ hs9.out.1 (fun e => by have := (hR2.out _ e.symm).2.1; omega)).trans hn9'.out
                have cA3 : wr.cell? ⟨w6.heap.size, 3, none⟩ = some (.slice la xl.length lcap) := by simp only [World.cell?, hnA]; rfl
                by_cases hlt : i < xl.length
                · obtain ⟨gb, cur, rfl, hgb, hcz⟩ := hG.out (by omega)
                  have hfit : i * 5 + 5 ≤ cur.size := by omega
                  have hgl := (Array.getElem?_eq_some_iff.1 hgb).1
                  obtain ⟨nw, hnw⟩ : ∃ nw, nw = (cur.toList.take (i * 5) ++ [Value.int .i64 3, .int .i64 0, .string ⟨#[99, 104, 97, 110, 103, 101, 100]⟩, .slice none 0 0, .slice none 0 0] ++ cur.toList.drop (i * 5 + 5)).toArray := ⟨_, rfl⟩
                  have hnz : nw.size = cur.size := by
                    rw [hnw]
                    simp only [List.size_toArray, List.length_append, List.length_take, List.length_drop, List.length_cons, List.length_nil, Array.length_toList]
                    omega
                  have hg' : Hid (w9.grownBy (wr.setRow gb nw) R2) := hide1 ⟨hg.out.os, hg.out.tape, hg.out.output, by have := hg.out.size; simpa [World.setRow] using this, fun k h1 h2 => (setRow_other wr gb k nw (fun e => h2 (by rw [hR2n.out (by omega), e]; rfl))).trans (hg.out.block k h1 h2)⟩
                  have hG' : Hid (Ob5 (some ⟨gb, 0, none⟩) xl.length 5 28 (wr.setRow gb nw)) := hide1 fun _ => ⟨gb, nw, rfl, setRow_heap wr gb _ nw _ _ hgb, by rw [hnz]; exact hcz⟩
                  clear hnA hG hg hnz
                  go_upto_region 24 with (refine wpList_stV rfl (.tmp 60) (.tmp 59) rfl gb (i * 5) rfl rfl hgb rfl hfit (by kernel_rfl) nw hnw.symm ?_)
                  generalize wr.setRow gb nw = wA at *
                  clear hgb hgl cA3 hfit hcz hnw
                  go_wp2
                  go_roundw
                  case rel => exact ⟨i + 1, rfl, by omega, hg', hG'⟩
                  case measure => simp [intOf]; omega
                · have BA : Hid (Below wn.heap.size wn wr) := hide1 ⟨hg.out.os.trans hs9.out.2.2.1, hg.out.tape.trans hs9.out.2.2.2.1, hg.out.output.trans hs9.out.2.2.2.2, Nat.le_trans hs9.out.2.1 hg.out.size, fun k hk => (hg.out.block k (by have := hs9.out.2.1; omega) (fun e => by have := (hR2.out k e.symm).1; omega)).trans (hg9.out k hk)⟩
                  have c14 : wr.cell? ⟨w.heap.size, 4, none⟩ = some (.slice pa cp.length pcap) := hl.out wr (g6.out.trans (BA.out.mono g6.out.size)) 4 _ rfl
                  clear hG hg hnA hg9 hs9 hn9' hR2 hR2n cA3 hlm1 hlm2 hn7 hr67
                  go_wp2_with fail
                  obtain ⟨wX, rfl⟩ : ∃ x, x = wr := ⟨_, rfl⟩
                  go_loopw [65] (fun x wr => ∃ i : Nat, x = .int .i64 (i : Nat) ∧ i ≤ cp.length ∧ Hid (Below wn.heap.size wn wr)) (fun x _ => cp.length - (intOf x).toNat)
                  case atStart => exact ⟨0, rfl, by omega, BA⟩
                  case round =>
                    clear BA c14
                    obtain ⟨i, rfl, hin, hb⟩ := hrel
                    have hwr : Hid (Below w.heap.size w wr) := hide1 (B6.out.trans (hb.out.mono B6.out.size))
                    by_cases hlt : i < cp.length
                    · obtain ⟨x, hx⟩ : ∃ x, cp[i]? = some x := ⟨_, List.getElem?_eq_getElem hlt⟩
                      obtain ⟨q, hq⟩ : ∃ q, p[i]? = some q := ⟨_, List.getElem?_eq_getElem (by have := e2.out; omega)⟩
                      have hxn := hp1 i q x hq hx
                      have hxv := (hp2 i q x hq hx).va
                      have r2b : RwA (· < w.heap.size) wr 49 6 (.slice pa cp.length pcap) cp := r2.frame (fun k hk _ => hwr.out.block k hk) (fun _ h _ => h)
                      obtain ⟨gb, o, cap, hve, hFg, hgl, hr⟩ := r2b.at hx
                      obtain ⟨rfl, rfl⟩ : pa = some ⟨gb, o, none⟩ ∧ pcap = cap := by cases hve; exact ⟨rfl, rfl⟩
                      obtain ⟨x0, x1, x2, x3, x4, x5, rfl⟩ := arr6 (r2.1 x (List.mem_of_getElem? hx))
                      obtain rfl : x0 = .string (st q.1) := by simpa using hxn
                      have hone : (#[.string (st q.1), x1, x2, x3, x4, x5] : Array Value).all (·.oneCell') = true := by
                        have h1 := hxv.one
                        simpa [Value.oneCell'] using h1
                      obtain ⟨gn, rfl, hgn1, hgn2, hgn3⟩ := own_name hrw.out (i := i) (v := .string (st q.1)) (by rw [List.getElem?_map, hq]; rfl) hlt
                      have hz6 : (wr.alloc (.cells #[.string ⟨#[]⟩, .int .i64 0, .int .i64 0, .string ⟨#[]⟩, .slice none 0 0, .slice none 0 0] 49)).heap[wr.heap.size]? = some (.cells #[.string ⟨#[]⟩, .int .i64 0, .int .i64 0, .string ⟨#[]⟩, .slice none 0 0, .slice none 0 0] 49 (0, 0)) := new_at wr _ _
                      obtain ⟨wA, hwA⟩ : ∃ wA, wA = (wr.alloc (.cells #[.string ⟨#[]⟩, .int .i64 0, .int .i64 0, .string ⟨#[]⟩, .slice none 0 0, .slice none 0 0] 49)).setRow wr.heap.size #[.string (st q.1), x1, x2, x3, x4, x5] := ⟨_, rfl⟩
                      have bA : Below wr.heap.size wr wA := by rw [hwA]; exact blw_own (below_al _) (Nat.le_refl _) _
                      have hnA : wA.heap[wr.heap.size]? = some (.cells #[.string (st q.1), x1, x2, x3, x4, x5] 49 (0, 0)) := by rw [hwA]; exact setRow_heap _ _ _ _ _ _ hz6
                      have hb' : Hid (Below wn.heap.size wn wA) := hide1 (hb.out.trans (bA.mono hb.out.size))
                      have hld0 : ∀ wa, Below wA.heap.size wA wa → (Instr.loadAt 9 (.pointer (some ⟨wr.heap.size, 0, none⟩))).run Tryz.prog wa = .ok (.string (st q.1)) wa := fun wa hwa => ld_s0 (by simp only [World.cell?, hwa.block _ (Array.getElem?_eq_some_iff.1 hnA).1, hnA]; rfl)
                      have hld1 : ∀ wa, Below wA.heap.size wA wa → (Instr.loadAt 9 (.pointer (some ⟨gn, i, none⟩))).run Tryz.prog wa = .ok (.string (st q.1)) wa := fun wa hwa => ld_s0 ((World.cell?_of_block ((hwa.block _ (Nat.lt_of_lt_of_le hgn2 hb'.out.size)).trans (hb'.out.block _ hgn2))).trans hgn3)
                      clear bA hnA hve hxn hxv r2b hb hwr hgn1 hgn2 hgn3
                      go_upto_region 28 with (first
                        | refine wpList_load_mid rfl 49 (.tmp 68) rfl gb (o + i * 6) rfl [.string (st q.1), x1, x2, x3, x4, x5] _ hr Tryz.underlying49 rfl (by kernel_rfl) ?_
                        | refine wpList_store_row rfl 49 (.tmp 11) (.tmp 69) rfl wr.heap.size #[.string (st q.1), x1, x2, x3, x4, x5] rfl rfl 49 _ hz6 (by kernel_rfl) rfl hone ?_)
                      rw [← hwA]
                      clear hwA hz6 hr hone
                      refine wp_flowG 6 _ _ (by kernel_rfl) (by kernel_rfl) (by kernel_rfl) rfl (fun j v_ _ => v_ = ([.pointer (some ⟨wr.heap.size, 0, none⟩), .string (st q.1), .slice (some ⟨gn, 0, none⟩) cp.length ncap, .int .i64 (i : Nat), .pointer (some ⟨gn, i, none⟩), .string (st q.1), .bool false] : List Value).getD j undef) (fun _ _ _ _ h _ => h) ?_ ?_
                      · intro j op hop hj a wa hwa hsz hsl hdep K hK
                        match j, hop with
                        | 0, hop =>
                          obtain rfl := Option.some.inj hop
                          have p11 : a.tmps.getD 11 undef = .pointer (some ⟨wr.heap.size, 0, none⟩) := hsl 11 rfl
                          exact .plain rfl (wp_val (w' := wa) (v := .pointer (some ⟨wr.heap.size, 0, none⟩)) (by simp only [execOp, Act.eval]; rw [show a.tmps.getD 11 undef = _ from p11]; kernel_rfl) (hK _ _ (Below.refl _ _) rfl))
                        | 1, hop =>
                          obtain rfl := Option.some.inj hop
                          have t0 : a.tmps.getD 70 undef = .pointer (some ⟨wr.heap.size, 0, none⟩) := hdep 0 _ 70 rfl rfl ⟨⟨0, .data⟩, by simp, rfl, rfl⟩
                          exact .plain rfl (wp_val (w' := wa) (v := .string (st q.1)) (by simp only [execOp, Act.eval]; rw [show a.tmps.getD 70 undef = _ from t0]; simp only [Sem.run_bind, hld0 wa hwa, Result.andThen_ok, Sem.run_pure]) (hK _ _ (Below.refl _ _) rfl))
                        | 2, hop =>
                          obtain rfl := Option.some.inj hop
                          have p4 : a.tmps.getD 4 undef = .slice (some ⟨gn, 0, none⟩) cp.length ncap := hsl 4 rfl
                          exact .plain rfl (wp_val (w' := wa) (v := .slice (some ⟨gn, 0, none⟩) cp.length ncap) (by simp only [execOp, Act.eval]; rw [show a.tmps.getD 4 undef = _ from p4]; rfl) (hK _ _ (Below.refl _ _) rfl))
                        | 3, hop =>
                          obtain rfl := Option.some.inj hop
                          have p10 : a.tmps.getD 10 undef = .int .i64 (i : Nat) := hsl 10 rfl
                          exact .plain rfl (wp_val (w' := wa) (v := .int .i64 (i : Nat)) (by simp only [execOp, Act.eval]; rw [show a.tmps.getD 10 undef = _ from p10]; rfl) (hK _ _ (Below.refl _ _) rfl))
                        | 4, hop =>
                          obtain rfl := Option.some.inj hop
                          have t2 : a.tmps.getD 72 undef = .slice (some ⟨gn, 0, none⟩) cp.length ncap := hdep 2 _ 72 rfl rfl ⟨⟨2, .data⟩, by simp, rfl, rfl⟩
                          have t3 : a.tmps.getD 73 undef = .int .i64 (i : Nat) := hdep 3 _ 73 rfl rfl ⟨⟨3, .data⟩, by simp, rfl, rfl⟩
                          exact .plain rfl (wp_val (w' := wa) (v := .pointer (some ⟨gn, i, none⟩)) (by simp only [execOp, Act.eval]; rw [show a.tmps.getD 72 undef = _ from t2, show a.tmps.getD 73 undef = _ from t3]; simp only [Sem.run_bind, ix_s5 hlt, Result.andThen_ok, Sem.run_pure]) (hK _ _ (Below.refl _ _) rfl))
                        | 5, hop =>
                          obtain rfl := Option.some.inj hop
                          have t4 : a.tmps.getD 74 undef = .pointer (some ⟨gn, i, none⟩) := hdep 4 _ 74 rfl rfl ⟨⟨4, .data⟩, by simp, rfl, rfl⟩
                          exact .plain rfl (wp_val (w' := wa) (v := .string (st q.1)) (by simp only [execOp, Act.eval]; rw [show a.tmps.getD 74 undef = _ from t4]; simp only [Sem.run_bind, hld1 wa hwa, Result.andThen_ok, Sem.run_pure]) (hK _ _ (Below.refl _ _) rfl))
                        | 6, _ => exact absurd rfl hj
                        | _ + 7, hop => exact absurd hop (by simp)
                      · intro a wa hwa hdf hsz hsl hrr K hK
                        have t1 : a.tmps.getD 71 undef = .string (st q.1) := hrr 1 _ 71 rfl (by decide) rfl
                        have t5 : a.tmps.getD 75 undef = .string (st q.1) := hrr 5 _ 75 rfl (by decide) rfl
                        refine .plain rfl (wp_val (w' := wa) (v := .bool false) (by simp only [execOp, Act.eval]; rw [show a.tmps.getD 71 undef = _ from t1, show a.tmps.getD 75 undef = _ from t5]; simp only [Sem.run_bind, eg_s, neq_s5, Result.andThen_ok, Sem.run_pure]) ?_)
                        refine hK _ wa ?_
                        have hact := act_puts hdf hsz hsl
                        clear hrr hsl hdf hsz hK t1 t5
                        simp only [List.filterMap_cons, List.filterMap_nil, List.foldl_cons, List.foldl_nil] at hact
                        rw [hact]
                        generalize a.tmps.getD 70 undef = y70
                        generalize a.tmps.getD 71 undef = y71
                        generalize a.tmps.getD 72 undef = y72
                        generalize a.tmps.getD 73 undef = y73
                        generalize a.tmps.getD 74 undef = y74
                        generalize a.tmps.getD 75 undef = y75
                        clear hact
                        simp only [Act.put, List.setIfInBounds_toArray, List.set_cons_succ, List.set_cons_zero]
                        have hb2 := hide1 (hb'.out.trans (hwa.mono hb'.out.size))
                        clear hwa hb' hld0 hld1
                        go_wp2
                        go_roundw
                        case rel => exact ⟨i + 1, rfl, by omega, hb2⟩
                        case measure => simp [intOf]; omega
                    · have gY := hide1 (g6.out.trans (hb.out.mono g6.out.size))
                      have hlY : ∀ wa, Below wr.heap.size wr wa → wa.rangeAt w.heap.size 0 [.int .i64 k, .int .i64 ki, .string (st s), .slice sa cl.length scap, .slice pa cp.length pcap] := fun wa hwa => hl.out wa (gY.out.trans (hwa.mono gY.out.size))
                      have hl3Y : ∀ wa, Below wr.heap.size wr wa → wa.rangeAt w3.heap.size 0 [y0, y1, y2, y3, y4] := fun wa hwa j u hj => by
                        have hx := ((hwa.block _ (Nat.lt_of_lt_of_le hn6l hb.out.size)).trans (hb.out.block _ hn6l)).trans hn6.out
                        simp only [World.cell?, hx]
                        rw [Nat.zero_add]
                        simpa using hj
                      have hrs2 : ∀ wa, Below wr.heap.size wr wa → Calls Tryz.prog 23 #[.agg #[.int .i64 k, .int .i64 ki, .string (st s), .slice sa cl.length scap, .slice pa cp.length pcap], .int .i64 0] wa (AnG5 (· < w.heap.size) wa (so 8 (.mk k ki s l p))) := fun wa hwa => by
                        have hB := hwr.out.trans (hwa.mono hwr.out.size)
                        exact rs_d 8 0 (by omega) q1 (hvf.out wa hB).va (hFw wa hB)
                      have hex2 : ∀ wa, Below wr.heap.size wr wa → ∀ c : Array Value, VA (fun _ => True) wa (so 8 (.mk k ki s l p)) c.toList → Calls Tryz.prog 16 #[.agg c, .agg #[y0, y1, y2, y3, y4]] wa fun e w' => e = .returned (.bool true) ∧ Below wa.heap.size wa w' := fun wa hwa c hc => by
                        have hex := ex_d 200 (F := fun _ => True) (G := fun _ => True) (w := wa) (so_hgt 8 q1) hc (VA.frame (c := [y0, y1, y2, y3, y4]) hv6.out (w' := wa) (fun k _ hs => (hwa.block k (Nat.lt_of_lt_of_le hs hb.out.size)).trans (hb.out.block k hs)) (fun _ _ _ => trivial))
                        rw [(exB_eq (hgt_ht (so_hgt 8 q1))).2 rfl] at hex
                        exact hex
                      clear hv6 hn6 hrw hin hb
                      go_upto_region 31 with fail
                      refine wp_flowG 4 _ _ (by kernel_rfl) (by kernel_rfl) (by kernel_rfl) rfl (fun j v_ w_ => if j = 1 then (fun v w_ => ∃ c : Array Value, v = .agg c ∧ VA (fun _ => True) w_ (so 8 (.mk k ki s l p)) c.toList) v_ w_ else v_ = ([.agg #[.int .i64 k, .int .i64 ki, .string (st s), .slice sa cl.length scap, .slice pa cp.length pcap], undef, .agg #[y0, y1, y2, y3, y4], .bool true, .bool true] : List Value).getD j undef) (fun j v w w' h hb => by
                            by_cases e1 : j = 1
                            · subst e1; exact by obtain ⟨c, e, hx⟩ := h; exact ⟨c, e, hx.frame (fun k _ hs => hb.block k hs) (fun _ h _ => h)⟩
                            · simp only [if_neg e1] at h ⊢; exact h
                            ) ?_ ?_
                      · intro j op hop hj a wa hwa hsz hsl hdep K hK
                        match j, hop with
                        | 0, hop =>
                          obtain rfl := Option.some.inj hop
                          have p1 : a.tmps.getD 1 undef = .pointer (some ⟨w.heap.size, 0, none⟩) := hsl 1 rfl
                          exact .plain rfl (wp_val (w' := wa) (v := .agg #[.int .i64 k, .int .i64 ki, .string (st s), .slice sa cl.length scap, .slice pa cp.length pcap]) (by simp only [execOp, Act.eval]; rw [show a.tmps.getD 1 undef = _ from p1]; simp only [Sem.run_bind, ld_m5 (hlY wa hwa), Result.andThen_ok, Sem.run_pure]) (hK _ _ (Below.refl _ _) rfl))
                        | 1, hop =>
                          obtain rfl := Option.some.inj hop
                          have t0 : a.tmps.getD 78 undef = .agg #[.int .i64 k, .int .i64 ki, .string (st s), .slice sa cl.length scap, .slice pa cp.length pcap] := hdep 0 _ 78 rfl rfl ⟨⟨0, .data⟩, by simp, rfl, rfl⟩
                          refine .plain rfl (oper_any (J := fun r w' => (fun v w_ => ∃ c : Array Value, v = .agg c ∧ VA (fun _ => True) w_ (so 8 (.mk k ki s l p)) c.toList) r w' ∧ Below wa.heap.size wa w') 23 #[.tmp 78, .const ((.int .i64 0))] _ rfl #[.agg #[.int .i64 k, .int .i64 ki, .string (st s), .slice sa cl.length scap, .slice pa cp.length pcap], (.int .i64 0)] (by simp only [List.map_toArray, List.map_cons, List.map_nil, Act.eval]; rw [show a.tmps.getD 78 undef = _ from t0]) (fun w => by kernel_rfl) ((hrs2 wa hwa).mono fun e w' h => by obtain ⟨c, rfl, h5, hb, hx⟩ := h; exact ⟨_, rfl, ⟨c, rfl, hx.frame (fun _ _ _ => rfl) (fun _ _ _ => trivial)⟩, hb⟩) ?_)
                          rintro r w' ⟨hr, hb⟩
                          exact hK _ _ hb hr
                        | 2, hop =>
                          obtain rfl := Option.some.inj hop
                          have p3 : a.tmps.getD 3 undef = .pointer (some ⟨w3.heap.size, 0, none⟩) := hsl 3 rfl
                          exact .plain rfl (wp_val (w' := wa) (v := .agg #[y0, y1, y2, y3, y4]) (by simp only [execOp, Act.eval]; rw [show a.tmps.getD 3 undef = _ from p3]; simp only [Sem.run_bind, ld_mV (hl3Y wa hwa), Result.andThen_ok, Sem.run_pure]) (hK _ _ (Below.refl _ _) rfl))
                        | 3, hop =>
                          obtain rfl := Option.some.inj hop
                          have t1 : (fun v w_ => ∃ c : Array Value, v = .agg c ∧ VA (fun _ => True) w_ (so 8 (.mk k ki s l p)) c.toList) (a.tmps.getD 79 undef) wa := hdep 1 _ 79 rfl rfl ⟨⟨1, .data⟩, by simp, rfl, rfl⟩
                          have t2 : a.tmps.getD 80 undef = .agg #[y0, y1, y2, y3, y4] := hdep 2 _ 80 rfl rfl ⟨⟨2, .data⟩, by simp, rfl, rfl⟩
                          refine .plain rfl (oper_any (J := fun r w' => r = .bool true ∧ Below wa.heap.size wa w') 16 #[.tmp 79, .tmp 80] _ rfl #[a.tmps.getD 79 undef, .agg #[y0, y1, y2, y3, y4]] (by simp only [List.map_toArray, List.map_cons, List.map_nil, Act.eval]; rw [show a.tmps.getD 80 undef = _ from t2]) (fun w => by kernel_rfl) (by obtain ⟨c, ev, hx⟩ := t1; rw [ev]; exact (hex2 wa hwa c hx).mono fun e w' h => ⟨_, h.1, rfl, h.2⟩) ?_)
                          rintro r w' ⟨rfl, hb⟩
                          exact hK _ _ hb rfl
                        | 4, _ => exact absurd rfl hj
                        | _ + 5, hop => exact absurd hop (by simp)
                      · intro a wa hwa hdf hsz hsl hrr K hK
                        have t3 : a.tmps.getD 81 undef = .bool true := hrr 3 _ 81 rfl (by decide) rfl
                        refine .plain rfl (wp_val (w' := wa) (v := .bool true) (by simp only [execOp, Act.eval]; rw [show a.tmps.getD 81 undef = _ from t3]; rfl) ?_)
                        refine hK _ wa ?_
                        have hact := act_puts hdf hsz hsl
                        clear hrr hsl hdf hsz hK t3
                        simp only [List.filterMap_cons, List.filterMap_nil, List.foldl_cons, List.foldl_nil] at hact
                        rw [hact]
                        generalize a.tmps.getD 78 undef = y78
                        generalize a.tmps.getD 79 undef = y79
                        generalize a.tmps.getD 80 undef = y80
                        generalize a.tmps.getD 81 undef = y81
                        clear hact
                        simp only [Act.put, List.setIfInBounds_toArray, List.set_cons_succ, List.set_cons_zero]
                        have hB9 := hide1 (hwr.out.trans (hwa.mono hwr.out.size))
                        clear hwa hlY hl3Y hrs2 hex2
                        go_wp2
                        go_ret
                        exact ⟨rfl, hB9.out⟩
end Go.Proofs.YtbemaloaobeblaaGreatDoor

namespace Go.Proofs.YtbemaloaobeblaaGreatDoor
open Go.ChangeShapes Go.WideShapes Go.ChangeAt Go.RowKit

section
variable {H : Type} {enc : TypeId × Value → H} {W : World} {held : Bool}
set_option maxHeartbeats 1000000 in
theorem vb_in : ∀ (fuel : Nat) (cs : List Value) (x : DataW H × List MemPlace), DataW.trod enc Tryz.prog W 0 (fun _ => true) held fuel 28 cs = some x → ∃ t, VB (· < W.heap.size) W t cs ∧ ∀ n, sbd n t := by
  intro fuel
  induction fuel using Nat.strongRecOn with
  | _ fuel ih =>
    intro cs x h
    obtain ⟨xs, n, rfl, _, hl, hxl, hf⟩ := DataW.trod_struct Tryz.underlying28 h
    have c5 : Tryz.prog.cellsOf 28 = 5 := by kernel_rfl
    have c6 : Tryz.prog.cellsOf 49 = 6 := by kernel_rfl
    rw [c5] at hl
    obtain ⟨v0, v1, v2, v3, v4, rfl⟩ := five_l hl
    obtain ⟨y0, y1, y2, y3, y4, rfl⟩ := five_l hxl
    have c1 : Tryz.prog.cellsOf 3 = 1 := by kernel_rfl
    have c2 : Tryz.prog.cellsOf 9 = 1 := by kernel_rfl
    have c3 : Tryz.prog.cellsOf 25 = 1 := by kernel_rfl
    have c4 : Tryz.prog.cellsOf 26 = 1 := by kernel_rfl
    have g0 : DataW.trod enc Tryz.prog W 0 (fun _ => true) held n 3 (([v0, v1, v2, v3, v4].drop 0).take (Tryz.prog.cellsOf 3)) = some y0 := hf 0 _ rfl
    rw [c1] at g0
    replace g0 : DataW.trod enc Tryz.prog W 0 (fun _ => true) held n 3 [v0] = some y0 := g0
    have g1 : DataW.trod enc Tryz.prog W 0 (fun _ => true) held n 3 (([v0, v1, v2, v3, v4].drop 1).take (Tryz.prog.cellsOf 3)) = some y1 := hf 1 _ rfl
    rw [c1] at g1
    replace g1 : DataW.trod enc Tryz.prog W 0 (fun _ => true) held n 3 [v1] = some y1 := g1
    have g2 : DataW.trod enc Tryz.prog W 0 (fun _ => true) held n 9 (([v0, v1, v2, v3, v4].drop 2).take (Tryz.prog.cellsOf 9)) = some y2 := hf 2 _ rfl
    rw [c2] at g2
    replace g2 : DataW.trod enc Tryz.prog W 0 (fun _ => true) held n 9 [v2] = some y2 := g2
    have g3 : DataW.trod enc Tryz.prog W 0 (fun _ => true) held n 25 (([v0, v1, v2, v3, v4].drop 3).take (Tryz.prog.cellsOf 25)) = some y3 := hf 3 _ rfl
    rw [c3] at g3
    replace g3 : DataW.trod enc Tryz.prog W 0 (fun _ => true) held n 25 [v3] = some y3 := g3
    have g4 : DataW.trod enc Tryz.prog W 0 (fun _ => true) held n 26 (([v0, v1, v2, v3, v4].drop 4).take (Tryz.prog.cellsOf 26)) = some y4 := hf 4 _ rfl
    rw [c4] at g4
    replace g4 : DataW.trod enc Tryz.prog W 0 (fun _ => true) held n 26 [v4] = some y4 := g4
    obtain ⟨kd, e0, _, _⟩ := DataW.trod_int Tryz.underlying3 g0
    obtain ⟨ki, e1, _, _⟩ := DataW.trod_int Tryz.underlying3 g1
    obtain ⟨s, e2, _, sz2⟩ := DataW.trod_string Tryz.underlying9 g2
    cases e0; cases e1; cases e2
    have K3 : CapOk v3 := by
      rcases DataW.trod_slice Tryz.underlying25 g3 with ⟨e, _⟩ | ⟨a, len, cap, el, rs, m, rfl, e, _, _, hlc, hcm, _⟩
      · cases e
        intro a n c h
        cases h
        omega
      · cases e
        intro a' n' c' h
        cases h
        exact ⟨hlc, by unfold maxLen at hcm; omega⟩
    have K4 : CapOk v4 := by
      rcases DataW.trod_slice Tryz.underlying26 g4 with ⟨e, _⟩ | ⟨a, len, cap, el, rs, m, rfl, e, _, _, hlc, hcm, _⟩
      · cases e
        intro a n c h
        cases h
        omega
      · cases e
        intro a' n' c' h
        cases h
        exact ⟨hlc, by unfold maxLen at hcm; omega⟩
    obtain ⟨l, cl, R1, L1, S1, V1⟩ : ∃ (l : List T) (cl : List (List Value)), RwA (· < W.heap.size) W Vt 5 v3 cl ∧ cl.length = l.length ∧ (∀ t ∈ l, ∀ n, sbd n t) ∧ ∀ (j : Nat) (t : T) (c : List Value), l[j]? = some t → cl[j]? = some c → VB (· < W.heap.size) W t c := by
      rcases DataW.trod_slice Tryz.underlying25 g3 with ⟨e, _⟩ | ⟨a, len, cap, el, rs, m, rfl, e, _, _, hlc, hcm, hel, hgo, _, _⟩
      · cases e
        exact ⟨[], [], RwA.nil, rfl, by simp, fun j t c h => by simp at h⟩
      · cases e
        rw [c5] at hgo
        have hex : ∀ i, i < len → ∃ q : List Value × T, (q.1.length = 5 ∧ ∀ j, j < 5 → W.cell? (a.add (i * 5 + j)) = q.1[j]?) ∧ (VB (· < W.heap.size) W q.2 q.1 ∧ ∀ n, sbd n q.2) := fun i hi => by
          have h1 := hgo i hi
          rw [List.getElem?_eq_getElem (by omega)] at h1
          obtain ⟨ci, h2, h3⟩ := Option.bind_eq_some_iff.1 h1
          obtain ⟨_, h4, h5⟩ := World.cells?_some h2
          obtain ⟨t, ht⟩ := ih m (by omega) ci _ h3
          refine ⟨(ci, t), ⟨h4, fun j hj => ?_⟩, ht⟩
          have := h5 j hj
          rwa [Addr.add_add] at this
        haveI : Inhabited (List Value × T) := ⟨([], .mk 0 0 [] [] [])⟩
        obtain ⟨f, hf⟩ := Deep.choose_lt hex
        refine ⟨(List.range len).map fun i => (f i).2, (List.range len).map fun i => (f i).1, row_in (by omega) (f := fun i => (f i).1) fun i hi => (hf i hi).1, by simp, fun t ht => ?_, fun j t c h1 h2 => ?_⟩
        · obtain ⟨i, hi, rfl⟩ := List.mem_map.1 ht
          exact (hf i (List.mem_range.1 hi)).2.2
        have hj : j < len := by have := (List.getElem?_eq_some_iff.1 h1).1; simpa using this
        simp [hj] at h1 h2
        subst h1 h2
        exact (hf j hj).2.1
    obtain ⟨p, cp, R2, L2, S2, N2, V2⟩ : ∃ (p : List (List UInt8 × T)) (cp : List (List Value)), RwA (· < W.heap.size) W Pt 6 v4 cp ∧ cp.length = p.length ∧ (∀ q ∈ p, ∀ n, q.1.length ≤ 9223372036854775807 ∧ sbd n q.2) ∧ (∀ (j : Nat) (q : List UInt8 × T) (c : List Value), p[j]? = some q → cp[j]? = some c → c.head? = some (Value.string (st q.1))) ∧ ∀ (j : Nat) (q : List UInt8 × T) (c : List Value), p[j]? = some q → cp[j]? = some c → VB (· < W.heap.size) W q.2 c.tail := by
      rcases DataW.trod_slice Tryz.underlying26 g4 with ⟨e, _⟩ | ⟨a, len, cap, el, rs, m, rfl, e, _, _, hlc, hcm, hel, hgo, _, _⟩
      · cases e
        exact ⟨[], [], RwA.nil, rfl, by simp, fun j t c h => by simp at h, fun j t c h => by simp at h⟩
      · cases e
        rw [c6] at hgo
        have hex : ∀ i, i < len → ∃ q : List Value × (List UInt8 × T), (q.1.length = 6 ∧ ∀ j, j < 6 → W.cell? (a.add (i * 6 + j)) = q.1[j]?) ∧ q.1.head? = some (Value.string (st q.2.1)) ∧ (VB (· < W.heap.size) W q.2.2 q.1.tail ∧ ∀ n, q.2.1.length ≤ 9223372036854775807 ∧ sbd n q.2.2) := fun i hi => by
          have h1 := hgo i hi
          rw [List.getElem?_eq_getElem (by omega)] at h1
          obtain ⟨ci, h2, h3⟩ := Option.bind_eq_some_iff.1 h1
          obtain ⟨_, h4, h5⟩ := World.cells?_some h2
          obtain ⟨zs, k, rfl, _, hl6, hz2, hg⟩ := DataW.trod_struct Tryz.underlying49 h3
          obtain ⟨u0, r, rfl, hr⟩ := six_l h4
          obtain ⟨w0, w1, rfl⟩ := two_l hz2
          have k0 : DataW.trod enc Tryz.prog W 0 (fun _ => true) held k 9 (((u0 :: r).drop 0).take (Tryz.prog.cellsOf 9)) = some w0 := hg 0 _ rfl
          rw [c2] at k0
          replace k0 : DataW.trod enc Tryz.prog W 0 (fun _ => true) held k 9 [u0] = some w0 := by simpa using k0
          have k1 : DataW.trod enc Tryz.prog W 0 (fun _ => true) held k 28 (((u0 :: r).drop 1).take (Tryz.prog.cellsOf 28)) = some w1 := hg 1 _ rfl
          rw [c5] at k1
          replace k1 : DataW.trod enc Tryz.prog W 0 (fun _ => true) held k 28 r = some w1 := by
            rwa [List.drop_succ_cons, List.drop_zero, List.take_of_length_le (by omega)] at k1
          obtain ⟨s0, e0, _, sz0⟩ := DataW.trod_string Tryz.underlying9 k0
          cases e0
          obtain ⟨t, ht⟩ := ih k (by omega) r _ k1
          refine ⟨(.string s0 :: r, (s0.data.toList, t)), ⟨h4, fun j hj => ?_⟩, by simp [st], ht.1, fun n => ⟨by have : s0.data.toList.length = s0.size := rfl; rw [this]; unfold maxLen at sz0; omega, ht.2 n⟩⟩
          have := h5 j hj
          rwa [Addr.add_add] at this
        haveI : Inhabited (List Value × (List UInt8 × T)) := ⟨([], ([], .mk 0 0 [] [] []))⟩
        obtain ⟨f, hf⟩ := Deep.choose_lt hex
        refine ⟨(List.range len).map fun i => (f i).2, (List.range len).map fun i => (f i).1, row_in (by omega) (f := fun i => (f i).1) fun i hi => (hf i hi).1, by simp, fun t ht => ?_, fun j t c h1 h2 => ?_, fun j t c h1 h2 => ?_⟩
        · obtain ⟨i, hi, rfl⟩ := List.mem_map.1 ht
          exact (hf i (List.mem_range.1 hi)).2.2.2
        · have hj : j < len := by have := (List.getElem?_eq_some_iff.1 h1).1; simpa using this
          simp [hj] at h1 h2
          subst h1 h2
          exact (hf j hj).2.1
        · have hj : j < len := by have := (List.getElem?_eq_some_iff.1 h1).1; simpa using this
          simp [hj] at h1 h2
          subst h1 h2
          exact (hf j hj).2.2.1
    refine ⟨.mk kd ki s.data.toList l p, ?_, fun n => ?_⟩
    · have := VB.mk (F := (· < W.heap.size)) (w := W) (k := kd) (i := ki) (s := s.data.toList) R1 R2 L1 L2 V1 N2 V2 K3 K4
      simpa [st] using this
    · cases n with
      | zero => trivial
      | succ n => exact ⟨by have : s.data.toList.length = s.size := rfl; rw [this]; unfold maxLen at sz2; omega, fun t ht => S1 t ht n, fun q hq => S2 q hq n⟩
end
def laidJ : List (String × DataW Unit) := [("math/bits.deBruijn32tab", Rows.laid_math_bits_deBruijn32tab), ("math/bits.deBruijn64tab", Rows.laid_math_bits_deBruijn64tab), ("internal/strconv.uint64pow10", Rows.laid_internal_strconv_uint64pow10), ("unicode/utf8.acceptRanges", Rows.laid_unicode_utf8_acceptRanges), ("strconv.ErrRange", Rows.laid_strconv_ErrRange), ("strconv.ErrSyntax", Rows.laid_strconv_ErrSyntax), ("unicode/utf8.first", Rows.laid_unicode_utf8_first)]
theorem acc_L : (Rows.laid_unicode_utf8_acceptRanges : DataW Unit) = Lib.acceptData := by kernel_rfl
theorem pow_L : (Rows.laid_internal_strconv_uint64pow10 : DataW Unit) = Lib.tabData .u64 Lib.pow10Tab := by kernel_rfl
theorem fst_L : Rows.laid_unicode_utf8_first = Lib.firstData := Pinned.utf8First_eq
theorem err_cell {W : World} {n nm : String} {d : DataW Unit} {g : Nat} {t : TypeId} {ms : Array (String × TypeId)} (hg : Tryz.prog.globalNamed n = some g) (ht : (Tryz.prog.globals[g]?).map (·.type) = some t) (hi : Tryz.prog.underlying t = some (.interface ms))
    (h : Lib.VarReads Tryz.prog W n (.iface nm d)) : ∃ te pe, W.cell? ⟨g, 0, none⟩ = some (.iface te pe) := by
  obtain ⟨g', t', cs, fuel, p, hg', hty, hvar, hd⟩ := h
  obtain rfl := Option.some.inj (hg.symm.trans hg')
  obtain rfl := Option.some.inj (ht.symm.trans hty)
  obtain ⟨f1, u, v, e, hn, h1⟩ := iface_of_trod hi hd
  refine ⟨u, v, ?_⟩
  rw [World.var?_cell hg hvar 0, ← Array.getElem?_toList, e]
  rfl
theorem of_laidJ {W : World} (h : laidMetH Tryz.prog laidJ W) : Ev W ∧ 8 ≤ W.heap.size := by
  rw [MakeChecks.laidMetH_plain _ _ _ (by kernel_rfl)] at h
  have r1 : Lib.VarReads Tryz.prog W "unicode/utf8.first" Lib.firstData := fst_L ▸ Lib.laidMet.reads h (by simp [laidJ])
  have r2 : Lib.VarReads Tryz.prog W "unicode/utf8.acceptRanges" Lib.acceptData := acc_L ▸ Lib.laidMet.reads h (by simp [laidJ])
  have r3 : Lib.VarReads Tryz.prog W "internal/strconv.uint64pow10" (Lib.tabData .u64 Lib.pow10Tab) := pow_L ▸ Lib.laidMet.reads h (by simp [laidJ])
  have r4 : Lib.VarReads Tryz.prog W "strconv.ErrSyntax" Rows.laid_strconv_ErrSyntax := Lib.laidMet.reads h (by simp [laidJ])
  have r5 : Lib.VarReads Tryz.prog W "strconv.ErrRange" Rows.laid_strconv_ErrRange := Lib.laidMet.reads h (by simp [laidJ])
  have r6 : Lib.VarReads Tryz.prog W "math/bits.deBruijn64tab" Rows.laid_math_bits_deBruijn64tab := Lib.laidMet.reads h (by simp [laidJ])
  refine ⟨⟨utf8Tabs_of_reads lays260 ⟨by kernel_rfl, by kernel_rfl, by kernel_rfl, by kernel_rfl, by kernel_rfl, by kernel_rfl, by kernel_rfl⟩ r1 r2, ?_, ?_, ?_⟩, ?_⟩
  · obtain ⟨g, t, cs, fuel, p, hg, hty, hvar, hd⟩ := r3
    have e1 : Tryz.prog.globalNamed "internal/strconv.uint64pow10" = some 3 := by kernel_rfl
    obtain rfl := Option.some.inj (e1.symm.trans hg)
    have e2 : (Tryz.prog.globals[3]?).map (·.type) = some 161 := by kernel_rfl
    obtain rfl := Option.some.inj (e2.symm.trans hty)
    unfold Lib.TabIs
    rw [hvar, ← Lib.cells_of_tab Tryz.underlying161 Tryz.underlying125 (by kernel_rfl) (by kernel_rfl) hd]
  · exact err_cell (by kernel_rfl) (by kernel_rfl) Tryz.underlying30 r4
  · exact err_cell (by kernel_rfl) (by kernel_rfl) Tryz.underlying30 r5
  · obtain ⟨g, t, cs, fuel, p, hg, hty, hvar, hd⟩ := r6
    have e1 : Tryz.prog.globalNamed "math/bits.deBruijn64tab" = some 7 := by kernel_rfl
    obtain rfl := Option.some.inj (e1.symm.trans hg)
    unfold World.var? at hvar
    rw [hg] at hvar
    simp only [Option.bind_some] at hvar
    rcases Nat.lt_or_ge 7 W.heap.size with h' | h'
    · exact h'
    · rw [Array.getElem?_eq_none h'] at hvar; cases hvar
theorem laid_metJ (os : Os) (args : Array Value) : laidMetH Tryz.prog laidJ ((World.laidAll Tryz.prog os laidJ).forCall (fun _ _ => 0) ⟨#[], args, []⟩).memory := by
  rw [MakeChecks.laidMetH_plain _ _ _ (by kernel_rfl)]
  exact laidMet_laidAll _ (by kernel_rfl) (by kernel_rfl)
end Go.Proofs.YtbemaloaobeblaaGreatDoor

/- CA3, CA5, CA6, KR1: laid together. -/
import Derived.Test.YtbemaloaobeblaaGreatDoorG5
import Derived.Test.YtbemaloaobeblaaGreatDoorG4
import Derived.Test.YtbemaloaobeblaaGreatDoorG3
import Derived.Test.YtbemaloaobeblaaGreatDoorG2
namespace Go.Proofs.YtbemaloaobeblaaGreatDoor
open Go.RowKit

theorem clip_V {a : Option Addr} {cap : Nat} {w : World} : Calls Tryz.prog 68 #[.slice a 0 cap] w fun e w' => e = .returned (.slice a 0 0) ∧ w' = w := by
  go_enter Tryz.func68, Tryz.ntmps68
  cases a <;> go_wp2 <;> go_ret <;> exact ⟨rfl, rfl⟩
theorem clip_P {a : Option Addr} {cap : Nat} {w : World} : Calls Tryz.prog 69 #[.slice a 0 cap] w fun e w' => e = .returned (.slice a 0 0) ∧ w' = w := by
  go_enter Tryz.func69, Tryz.ntmps69
  cases a <;> go_wp2 <;> go_ret <;> exact ⟨rfl, rfl⟩
def Ms (W : World) (q : Nat) (k ki : Int) (s : ByteArray) (a b : Option Addr) (ca cb : Nat) (D1 D2 : Bool) (w : World) : Prop :=
  w.heap[q]? = some (.cells #[.int .i64 k, .int .i64 ki, .string s, .slice a 0 (if D1 then 0 else ca), .slice b 0 (if D2 then 0 else cb)] 28 (0, 0)) ∧ Ob W w q
section
variable {W w : World} {q : Nat} {k ki : Int} {s : ByteArray} {a b : Option Addr} {ca cb : Nat} {D : Nat → Bool} {D1 D2 : Bool}
theorem ms_ne {i s1 s2 : Nat} (h1 : s1 ≠ i) (h2 : s2 ≠ i) (h : Ms W q k ki s a b ca cb (D s1) (D s2) w) : Ms W q k ki s a b ca cb (add1 D i s1) (add1 D i s2) w := by
  rw [add1_ne h1, add1_ne h2]; exact h
theorem ms_c3 (h : Ms W q k ki s a b ca cb D1 D2 w) (h1 : D1 = false) : w.cell? ⟨q, 3, none⟩ = some (.slice a 0 ca) := by
  subst h1; simp only [World.cell?, h.1]; rfl
theorem ms_c4 (h : Ms W q k ki s a b ca cb D1 D2 w) (h1 : D2 = false) : w.cell? ⟨q, 4, none⟩ = some (.slice b 0 cb) := by
  subst h1; simp only [World.cell?, h.1]; rfl
theorem ms_7 (h : Ms W q k ki s a b ca cb (D 7) (D 9) w) (h1 : D 7 = false) :
    (Instr.storeAt 25 (.pointer (some ⟨q, 3, none⟩)) (.slice a 0 0)).run Tryz.prog w = .ok () (w.setCell ⟨q, 3, none⟩ (.slice a 0 0)) ∧ Ms W q k ki s a b ca cb (add1 D 7 7) (add1 D 7 9) (w.setCell ⟨q, 3, none⟩ (.slice a 0 0)) := by
  have hc : (w.cell? ⟨q, 3, none⟩).isSome = true := by rw [ms_c3 h h1]; rfl
  have hf : w.frozen? ⟨q, 3, none⟩ = false := by simp [World.frozen?, h.1]
  refine ⟨by simp [Instr.storeAt, Instr.sureAddr, go_sem, ms_c3 h h1, hf], ?_⟩
  rw [add1_eq, add1_ne (by decide)]
  have e := setCell_eq_setRow w q 3 _ _ (0, 0) (.slice a 0 0) h.1
  rw [e]
  exact ⟨(setRow_heap w q _ _ _ _ h.1).trans rfl, h.2.rowset⟩
theorem ms_9 (h : Ms W q k ki s a b ca cb (D 7) (D 9) w) (h1 : D 9 = false) :
    (Instr.storeAt 26 (.pointer (some ⟨q, 4, none⟩)) (.slice b 0 0)).run Tryz.prog w = .ok () (w.setCell ⟨q, 4, none⟩ (.slice b 0 0)) ∧ Ms W q k ki s a b ca cb (add1 D 9 7) (add1 D 9 9) (w.setCell ⟨q, 4, none⟩ (.slice b 0 0)) := by
  have hf : w.frozen? ⟨q, 4, none⟩ = false := by simp [World.frozen?, h.1]
  refine ⟨by simp [Instr.storeAt, Instr.sureAddr, go_sem, ms_c4 h h1, hf], ?_⟩
  rw [add1_eq, add1_ne (by decide)]
  have e := setCell_eq_setRow w q 4 _ _ (0, 0) (.slice b 0 0) h.1
  rw [e]
  exact ⟨(setRow_heap w q _ _ _ _ h.1).trans rfl, h.2.rowset⟩
theorem ms_11 (h1 : D1 = true) (h2 : D2 = true) (h : Ms W q k ki s a b ca cb D1 D2 w) : w.heap[q]? = some (.cells #[.int .i64 k, .int .i64 ki, .string s, .slice a 0 0, .slice b 0 0] 28 (0, 0)) ∧ Ob W w q := by
  subst h1; subst h2; exact h
end
def S0v (q : Nat) (a b : Option Addr) (ca cb : Nat) : Nat → Value → Prop
  | 0, v => v = .pointer (some ⟨q, 3, none⟩)
  | 1, v => v = .slice a 0 ca
  | 2, v => v = .slice a 0 0
  | 3, v => v = .pointer (some ⟨q, 4, none⟩)
  | 4, v => v = .slice b 0 cb
  | 5, v => v = .slice b 0 0
  | 6, v => v = .pointer (some ⟨q, 3, none⟩)
  | 8, v => v = .pointer (some ⟨q, 4, none⟩)
  | _, _ => True
def S0d : Nat → Nat
  | 0 => 11
  | 1 => 12
  | 2 => 13
  | 3 => 14
  | 4 => 15
  | 5 => 16
  | 6 => 17
  | 7 => 1007
  | 8 => 18
  | 9 => 1009
  | i => 2000 + i

set_option maxHeartbeats 4000000 in
set_option maxRecDepth 100000 in
theorem sorted_0 {w : World} {k ki : Int} {s : List UInt8} {a b : Option Addr} {ca cb : Nat} : Calls Tryz.prog 41 #[.agg #[.int .i64 k, .int .i64 ki, .string (st s), .slice a 0 ca, .slice b 0 cb], .int .i64 0] w (AnC w (.mk k ki s [] [])) := by
  obtain ⟨W, hW⟩ : ∃ W, W = (w.alloc (.cells #[.int .i64 k, .int .i64 ki, .string (st s), .slice a 0 ca, .slice b 0 cb] 28)).alloc (.cells #[.int .i64 0, .int .i64 0, .string ⟨#[]⟩, .slice none 0 0, .slice none 0 0] 28) := ⟨_, rfl⟩
  obtain ⟨q, hq⟩ : ∃ q, q = w.heap.size := ⟨_, rfl⟩
  have hb : Hid (Below w.heap.size w W) := hide1 (by rw [hW]; exact blw_al ((Below.refl _ _).alloc (Nat.le_refl _) _) (by simp) _)
  have hr2 : W.heap[q]? = some (.cells #[.int .i64 k, .int .i64 ki, .string (st s), .slice a 0 ca, .slice b 0 cb] 28 (0, 0)) := by
    rw [hW, hq]
    show ((w.heap.push _).push _)[w.heap.size]? = _
    rw [Array.getElem?_push, if_neg (by simp), Array.getElem?_push, if_pos rfl]
  have hr4 : W.heap[q + 1]? = some (.cells #[.int .i64 0, .int .i64 0, .string ⟨#[]⟩, .slice none 0 0, .slice none 0 0] 28 (0, 0)) := by
    rw [hW, hq]
    show ((w.heap.push _).push _)[w.heap.size + 1]? = _
    rw [Array.getElem?_push, if_pos (by simp)]
  have hM0 : Ms W q k ki (st s) a b ca cb false false W.drew := ⟨hr2, ⟨rfl, rfl, rfl, rfl, fun _ _ => rfl⟩⟩
  replace hr2 := hide1 hr2
  replace hr4 := hide1 hr4
  replace hM0 := hide1 hM0
  go_enter Tryz.func41, Tryz.ntmps41
  go_upto_region 2 with fail
  rw [← hW, ← hq]
  replace hM0 := hM0.out
  clear hW
  refine wp_rel5 _ _ (fun _ j v _ => S0v q a b ca cb j v) (fun D w => Ms W q k ki (st s) a b ca cb (D 7) (D 9) w) S0d (by kernel_rfl) (by kernel_rfl) 10 (by kernel_rfl) ?_ ?_ rfl hM0 ?_ ?_
  · intro ix o ho
    match ix, ho with
    | 0, ho => obtain rfl := Option.some.inj ho; exact .inl ⟨rfl, by show 11 < 68; decide⟩
    | 1, ho => obtain rfl := Option.some.inj ho; exact .inl ⟨rfl, by show 12 < 68; decide⟩
    | 2, ho => obtain rfl := Option.some.inj ho; exact .inl ⟨rfl, by show 13 < 68; decide⟩
    | 3, ho => obtain rfl := Option.some.inj ho; exact .inl ⟨rfl, by show 14 < 68; decide⟩
    | 4, ho => obtain rfl := Option.some.inj ho; exact .inl ⟨rfl, by show 15 < 68; decide⟩
    | 5, ho => obtain rfl := Option.some.inj ho; exact .inl ⟨rfl, by show 16 < 68; decide⟩
    | 6, ho => obtain rfl := Option.some.inj ho; exact .inl ⟨rfl, by show 17 < 68; decide⟩
    | 7, ho => obtain rfl := Option.some.inj ho; exact .inr ⟨⟨rfl, fun _ _ _ _ => trivial⟩, by show 68 ≤ 1007; decide⟩
    | 8, ho => obtain rfl := Option.some.inj ho; exact .inl ⟨rfl, by show 18 < 68; decide⟩
    | 9, ho => obtain rfl := Option.some.inj ho; exact .inr ⟨⟨rfl, fun _ _ _ _ => trivial⟩, by show 68 ≤ 1009; decide⟩
    | _ + 10, ho => exact absurd ho (by simp)
  · intro ix jx hi hj e; unfold S0d at e; split at e <;> split at e <;> omega
  · intro ix o ho
    match ix, ho with
    | 0, ho =>
      obtain rfl := Option.some.inj ho
      intro D a1 w hM hsl hdep hDi hcl K hK
      have hp2 : a1.tmps.getD 2 undef = .pointer (some ⟨q, 0, none⟩) := hsl 2 (by intro j hj; unfold S0d; split <;> omega)
      refine ⟨rfl, ?_⟩
      refine wp_val (w' := w) (v := .pointer (some ⟨q, 3, none⟩)) (by simp only [execOp, Act.eval]; rw [show a1.tmps.getD 2 undef = _ from hp2]; kernel_rfl) ?_
      exact hK _ _ rfl (ms_ne (by decide) (by decide) hM) (fun _ _ _ _ h => h)
    | 1, ho =>
      obtain rfl := Option.some.inj ho
      intro D a1 w hM hsl hdep hDi hcl K hK
      have e0 := (hdep ⟨0, .data⟩ (by simp) rfl).1
      have hD : D 7 = false := by cases h9 : D 7 with | false => rfl | true => have := hcl 7 _ rfl h9 ⟨1, .phase⟩ (by simp) rfl; rw [this] at hDi; cases hDi
      have hl := ms_c3 hM hD
      refine ⟨rfl, ?_⟩
      refine wp_val (w' := w) (v := .slice a 0 ca) (by simp only [execOp, Act.eval]; rw [show a1.tmps.getD 11 undef = _ from e0]; simp only [Sem.run_bind, ld_sV hl, Result.andThen_ok, Sem.run_pure]) ?_
      exact hK _ _ rfl (ms_ne (by decide) (by decide) hM) (fun _ _ _ _ h => h)
    | 2, ho =>
      obtain rfl := Option.some.inj ho
      intro D a1 w hM hsl hdep hDi hcl K hK
      have e1 := (hdep ⟨1, .data⟩ (by simp) rfl).1
      refine ⟨rfl, ?_⟩
      refine oper_any (J := fun r w' => r = .slice a 0 0 ∧ w' = w) 68 #[.tmp 12] _ rfl #[.slice a 0 ca] (by simp only [List.map_toArray, List.map_cons, List.map_nil, Act.eval]; rw [show a1.tmps.getD 12 undef = _ from e1]) (fun w => by kernel_rfl) (clip_V.mono fun e w' h => ⟨_, h.1, rfl, h.2⟩) ?_
      rintro r w' ⟨rfl, rfl⟩
      exact hK _ _ rfl (ms_ne (by decide) (by decide) hM) (fun _ _ _ _ h => h)
    | 3, ho =>
      obtain rfl := Option.some.inj ho
      intro D a1 w hM hsl hdep hDi hcl K hK
      have hp2 : a1.tmps.getD 2 undef = .pointer (some ⟨q, 0, none⟩) := hsl 2 (by intro j hj; unfold S0d; split <;> omega)
      refine ⟨rfl, ?_⟩
      refine wp_val (w' := w) (v := .pointer (some ⟨q, 4, none⟩)) (by simp only [execOp, Act.eval]; rw [show a1.tmps.getD 2 undef = _ from hp2]; kernel_rfl) ?_
      exact hK _ _ rfl (ms_ne (by decide) (by decide) hM) (fun _ _ _ _ h => h)
    | 4, ho =>
      obtain rfl := Option.some.inj ho
      intro D a1 w hM hsl hdep hDi hcl K hK
      have e3 := (hdep ⟨3, .data⟩ (by simp) rfl).1
      have hD : D 9 = false := by cases h9 : D 9 with | false => rfl | true => have := hcl 9 _ rfl h9 ⟨4, .phase⟩ (by simp) rfl; rw [this] at hDi; cases hDi
      have hl := ms_c4 hM hD
      refine ⟨rfl, ?_⟩
      refine wp_val (w' := w) (v := .slice b 0 cb) (by simp only [execOp, Act.eval]; rw [show a1.tmps.getD 14 undef = _ from e3]; simp only [Sem.run_bind, ld_sP hl, Result.andThen_ok, Sem.run_pure]) ?_
      exact hK _ _ rfl (ms_ne (by decide) (by decide) hM) (fun _ _ _ _ h => h)
    | 5, ho =>
      obtain rfl := Option.some.inj ho
      intro D a1 w hM hsl hdep hDi hcl K hK
      have e4 := (hdep ⟨4, .data⟩ (by simp) rfl).1
      refine ⟨rfl, ?_⟩
      refine oper_any (J := fun r w' => r = .slice b 0 0 ∧ w' = w) 69 #[.tmp 15] _ rfl #[.slice b 0 cb] (by simp only [List.map_toArray, List.map_cons, List.map_nil, Act.eval]; rw [show a1.tmps.getD 15 undef = _ from e4]) (fun w => by kernel_rfl) (clip_P.mono fun e w' h => ⟨_, h.1, rfl, h.2⟩) ?_
      rintro r w' ⟨rfl, rfl⟩
      exact hK _ _ rfl (ms_ne (by decide) (by decide) hM) (fun _ _ _ _ h => h)
    | 6, ho =>
      obtain rfl := Option.some.inj ho
      intro D a1 w hM hsl hdep hDi hcl K hK
      have hp2 : a1.tmps.getD 2 undef = .pointer (some ⟨q, 0, none⟩) := hsl 2 (by intro j hj; unfold S0d; split <;> omega)
      refine ⟨rfl, ?_⟩
      refine wp_val (w' := w) (v := .pointer (some ⟨q, 3, none⟩)) (by simp only [execOp, Act.eval]; rw [show a1.tmps.getD 2 undef = _ from hp2]; kernel_rfl) ?_
      exact hK _ _ rfl (ms_ne (by decide) (by decide) hM) (fun _ _ _ _ h => h)
    | 7, ho =>
      obtain rfl := Option.some.inj ho
      intro D a1 w hM hsl hdep hDi hcl K hK
      have e6 := (hdep ⟨6, .data⟩ (by simp) rfl).1
      have e2 := (hdep ⟨2, .data⟩ (by simp) rfl).1
      obtain ⟨hst, hM2⟩ := ms_7 hM hDi
      refine ⟨rfl, ?_⟩
      refine wp_skp (w' := w.setCell ⟨q, 3, none⟩ (.slice a 0 0)) (by simp only [execOp, Act.eval]; rw [show a1.tmps.getD 17 undef = _ from e6, show a1.tmps.getD 13 undef = _ from e2]; simp only [Sem.run_bind, hst, Result.andThen_ok, Sem.run_pure]) ?_
      exact hK _ _ trivial hM2 (fun _ _ _ _ h => h)
    | 8, ho =>
      obtain rfl := Option.some.inj ho
      intro D a1 w hM hsl hdep hDi hcl K hK
      have hp2 : a1.tmps.getD 2 undef = .pointer (some ⟨q, 0, none⟩) := hsl 2 (by intro j hj; unfold S0d; split <;> omega)
      refine ⟨rfl, ?_⟩
      refine wp_val (w' := w) (v := .pointer (some ⟨q, 4, none⟩)) (by simp only [execOp, Act.eval]; rw [show a1.tmps.getD 2 undef = _ from hp2]; kernel_rfl) ?_
      exact hK _ _ rfl (ms_ne (by decide) (by decide) hM) (fun _ _ _ _ h => h)
    | 9, ho =>
      obtain rfl := Option.some.inj ho
      intro D a1 w hM hsl hdep hDi hcl K hK
      have e8 := (hdep ⟨8, .data⟩ (by simp) rfl).1
      have e5 := (hdep ⟨5, .data⟩ (by simp) rfl).1
      obtain ⟨hst, hM2⟩ := ms_9 hM hDi
      refine ⟨rfl, ?_⟩
      refine wp_skp (w' := w.setCell ⟨q, 4, none⟩ (.slice b 0 0)) (by simp only [execOp, Act.eval]; rw [show a1.tmps.getD 18 undef = _ from e8, show a1.tmps.getD 16 undef = _ from e5]; simp only [Sem.run_bind, hst, Result.andThen_ok, Sem.run_pure]) ?_
      exact hK _ _ trivial hM2 (fun _ _ _ _ h => h)
    | _ + 10, ho => exact absurd ho (by simp)
  · intro D a1 wt hall hd hs hM hsl hr hact
    replace hM := ms_11 (hall 7 (by decide)) (hall 9 (by decide)) hM
    simp only [List.filterMap_cons, List.filterMap_nil, List.foldl_cons, List.foldl_nil] at hact
    rw [hact]
    generalize a1.tmps.getD 11 undef = y11
    generalize a1.tmps.getD 12 undef = y12
    generalize a1.tmps.getD 13 undef = y13
    generalize a1.tmps.getD 14 undef = y14
    generalize a1.tmps.getD 15 undef = y15
    generalize a1.tmps.getD 16 undef = y16
    generalize a1.tmps.getD 17 undef = y17
    generalize a1.tmps.getD 18 undef = y18
    clear hact hsl hr hd hs hall a1
    simp only [Act.put, List.setIfInBounds_toArray, List.set_cons_succ, List.set_cons_zero]
    obtain ⟨hM1, hM2⟩ := hM
    have l0 : wt.cell? ⟨q, 0, none⟩ = some (.int .i64 k) := by simp only [World.cell?, hM1]; rfl
    have l1 : wt.cell? ⟨q, 1, none⟩ = some (.int .i64 ki) := by simp only [World.cell?, hM1]; rfl
    have l2 : wt.cell? ⟨q, 2, none⟩ = some (.string (st s)) := by simp only [World.cell?, hM1]; rfl
    have l3 : wt.cell? ⟨q, 3, none⟩ = some (.slice a 0 0) := by simp only [World.cell?, hM1]; rfl
    have l4 : wt.cell? ⟨q, 4, none⟩ = some (.slice b 0 0) := by simp only [World.cell?, hM1]; rfl
    have hl5 : wt.rangeAt q 0 [.int .i64 k, .int .i64 ki, .string (st s), .slice a 0 0, .slice b 0 0] := fun j z hj => by
      simp only [World.cell?, hM1]
      rw [Nat.zero_add]
      simpa using hj
    have hr5 := (hM2.block (q + 1) (by omega)).trans hr4.out
    have hz := setRow_heap wt (q + 1) _ #[.int .i64 k, .int .i64 ki, .string (st s), .slice a 0 0, .slice b 0 0] _ _ hr5
    have ha : Hid (AnC w (.mk k ki s [] []) (.returned (.agg #[.int .i64 k, .int .i64 ki, .string (st s), .slice a 0 0, .slice b 0 0])) (wt.setRow (q + 1) #[.int .i64 k, .int .i64 ki, .string (st s), .slice a 0 0, .slice b 0 0])) := hide1 ⟨_, rfl, rfl, blw_own ⟨hM2.os.trans hb.out.os, hM2.tape.trans hb.out.tape, hM2.output.trans hb.out.output, by rw [hM2.size]; exact hb.out.size, fun k hk => (hM2.block k (by omega)).trans (hb.out.block k hk)⟩ (by omega) _, .mk ⟨by simp, .inl ⟨a, 0, rfl, rfl⟩⟩ ⟨by simp, .inl ⟨b, 0, rfl, rfl⟩⟩ rfl rfl (by simp) (by simp) (by simp)⟩
    replace hz := hide1 hz
    clear hM1 hM2 hr2 hr4 hb hM0
    go_wp2_with (first | refine wpList_load_mid rfl 28 (.tmp 2) rfl q 0 rfl [.int .i64 k, .int .i64 ki, .string (st s), .slice a 0 0, .slice b 0 0] _ hl5 Tryz.underlying28 rfl (by kernel_rfl) ?_ | refine wpList_store_row rfl Vt (.tmp 4) (.tmp 19) rfl (q + 1) #[.int .i64 k, .int .i64 ki, .string (st s), .slice a 0 0, .slice b 0 0] rfl rfl Vt _ hr5 (by kernel_rfl) rfl (by kernel_rfl) ?_)
    refine bodyPost_ret (results_v1 rfl _ rfl rfl hz.out) rfl ?_
    exact ha.out
theorem sorted_d : ∀ (d : Nat), d ≤ 8 → ∀ {h : Nat} {F : Nat → Prop} {w : World} {t : T} {c : List Value}, hgt h t → gd d t = true → VA F w t c → Calls Tryz.prog 41 #[.agg c.toArray, .int .i64 (d : Nat)] w (AnC w (so d t))
  | 0, _, h, F, w, t, c, _, hg, hv => by
    cases hv with
    | @mk k ki s l p sl sp cl cp r1 r2 e1 e2 hl hp1 hp2 =>
      obtain ⟨g1, g2, _⟩ := gd_list hg
      obtain rfl : l = [] := by rcases g1 with h | ⟨m, h, _⟩; exact h; omega
      obtain rfl : p = [] := by rcases g2 with h | ⟨m, h, _⟩; exact h; omega
      obtain rfl : cl = [] := List.length_eq_zero_iff.1 e1
      obtain rfl : cp = [] := List.length_eq_zero_iff.1 e2
      obtain ⟨a, ca, rfl⟩ := r1.slc
      obtain ⟨b, cb, rfl⟩ := r2.slc
      exact sorted_0
  | d + 1, hd, h, F, w, t, c, hh, hg, hv => by
    refine sorted_s (Q := fun t => (∃ h, hgt h t) ∧ gd d t = true) (d := d + 1) (fun ht hv => ?_) ?_ (by omega) (by omega) hv
    · obtain ⟨⟨h', h1⟩, h2⟩ := ht
      exact sorted_d d (by omega) h1 h2 hv
    · obtain ⟨k, ki, s, l, p⟩ := t
      cases h with
      | zero => exact hh.elim
      | succ h =>
        obtain ⟨b1, b2, h1, h2⟩ := hh
        obtain ⟨g1, g2, _⟩ := gd_list hg
        refine ⟨b1, b2, fun t ht => ⟨⟨h, h1 t ht⟩, ?_⟩, fun q hq => ⟨⟨h, h2 q hq⟩, ?_⟩⟩
        · rcases g1 with e | ⟨m, e, g⟩
          · rw [e] at ht; simp at ht
          · obtain rfl : m = d := by omega
            exact g t ht
        · rcases g2 with e | ⟨m, e, g⟩
          · rw [e] at hq; simp at hq
          · obtain rfl : m = d := by omega
            exact g q hq
end Go.Proofs.YtbemaloaobeblaaGreatDoor

namespace Go.Proofs.YtbemaloaobeblaaGreatDoor
open Go.RowKit Go.Shelf

def AnK (q : Nat) (ov : Value) (z : List UInt8) (w : World) (e : Ending) (w' : World) : Prop := e = .returned (.tuple #[]) ∧ ∃ ov', Wt w' q ov' z ∧ Wk q ov ov' w w'
theorem sign_91 {w : World} {q : Nat} {ov : Value} {z : List UInt8} (h : Wt w q ov z) : Calls Tryz.prog 98 #[.pointer (some ⟨q, 0, none⟩), .int .i32 91] w (AnK q ov (z ++ [91]) w) := by
  have ha := add_d (s := [91]) h
  clear h
  go_enter Tryz.func98, Tryz.ntmps98
  go_wp2_with fail
  refine ha.mono ?_
  rintro e w1 ⟨rfl, ov', h1, h2⟩
  go_wp2
  go_end0
  exact ⟨rfl, ov', h1, h2⟩
theorem sign_93 {w : World} {q : Nat} {ov : Value} {z : List UInt8} (h : Wt w q ov z) : Calls Tryz.prog 98 #[.pointer (some ⟨q, 0, none⟩), .int .i32 93] w (AnK q ov (z ++ [93]) w) := by
  have ha := add_d (s := [93]) h
  clear h
  go_enter Tryz.func98, Tryz.ntmps98
  go_wp2_with fail
  refine ha.mono ?_
  rintro e w1 ⟨rfl, ov', h1, h2⟩
  go_wp2
  go_end0
  exact ⟨rfl, ov', h1, h2⟩
theorem sign_123 {w : World} {q : Nat} {ov : Value} {z : List UInt8} (h : Wt w q ov z) : Calls Tryz.prog 98 #[.pointer (some ⟨q, 0, none⟩), .int .i32 123] w (AnK q ov (z ++ [123]) w) := by
  have ha := add_d (s := [123]) h
  clear h
  go_enter Tryz.func98, Tryz.ntmps98
  go_wp2_with fail
  refine ha.mono ?_
  rintro e w1 ⟨rfl, ov', h1, h2⟩
  go_wp2
  go_end0
  exact ⟨rfl, ov', h1, h2⟩
theorem sign_125 {w : World} {q : Nat} {ov : Value} {z : List UInt8} (h : Wt w q ov z) : Calls Tryz.prog 98 #[.pointer (some ⟨q, 0, none⟩), .int .i32 125] w (AnK q ov (z ++ [125]) w) := by
  have ha := add_d (s := [125]) h
  clear h
  go_enter Tryz.func98, Tryz.ntmps98
  go_wp2_with fail
  refine ha.mono ?_
  rintro e w1 ⟨rfl, ov', h1, h2⟩
  go_wp2
  go_end0
  exact ⟨rfl, ov', h1, h2⟩
theorem sign_44 {w : World} {q : Nat} {ov : Value} {z : List UInt8} (h : Wt w q ov z) : Calls Tryz.prog 98 #[.pointer (some ⟨q, 0, none⟩), .int .i32 44] w (AnK q ov (z ++ [44]) w) := by
  have ha := add_d (s := [44]) h
  clear h
  go_enter Tryz.func98, Tryz.ntmps98
  go_wp2_with fail
  refine ha.mono ?_
  rintro e w1 ⟨rfl, ov', h1, h2⟩
  go_wp2
  go_end0
  exact ⟨rfl, ov', h1, h2⟩
theorem sign_58 {w : World} {q : Nat} {ov : Value} {z : List UInt8} (h : Wt w q ov z) : Calls Tryz.prog 98 #[.pointer (some ⟨q, 0, none⟩), .int .i32 58] w (AnK q ov (z ++ [58]) w) := by
  have ha := add_d (s := [58]) h
  clear h
  go_enter Tryz.func98, Tryz.ntmps98
  go_wp2_with fail
  refine ha.mono ?_
  rintro e w1 ⟨rfl, ov', h1, h2⟩
  go_wp2
  go_end0
  exact ⟨rfl, ov', h1, h2⟩
set_option maxRecDepth 100000 in
theorem quoted_w {w : World} {q : Nat} {ov : Value} {z s : List UInt8} (h : Wt w q ov z) : Calls Tryz.prog 61 #[.pointer (some ⟨q, 0, none⟩), .string (st s)] w (AnK q ov (z ++ qu s) w) := by
  have hsz : Hid ((st s).size = s.length) := hide1 (st_size s)
  by_cases hs : 4096 < s.length
  · have ht : (4096 : Int) < ((st s).size : Int) := by rw [hsz.out]; omega
    obtain ⟨hbx, out, hown, hl, hz⟩ := h
    have c1 : w.cell? ⟨q, 1, none⟩ = some (.bool (decide (4096 < z.length))) := by simp only [World.cell?, hbx]; rfl
    have f1 : w.frozen? ⟨q, 1, none⟩ = false := by simp [World.frozen?, hbx]
    have e1 : w.setCell ⟨q, 1, none⟩ (.bool true) = w.setRow q #[ov, .bool true] := by rw [sw_row hbx]; rfl
    have hn := setRow_heap w q _ #[ov, .bool true] _ _ hbx
    have hf : Hid (Wt (w.setCell ⟨q, 1, none⟩ (.bool true)) q ov (z ++ qu s) ∧ Wk q ov ov w (w.setCell ⟨q, 1, none⟩ (.bool true))) := hide1 (by
      have hq := (qb_len s).1
      have hzs : 4096 < (z ++ qu s).length := by rw [List.length_append]; simp [qu]; omega
      rw [e1]
      exact ⟨⟨by rw [decide_eq_true hzs]; exact hn, out, hown.row _, hl, .inl hzs⟩, Wk.row _ _ _ fun _ h => .inl h⟩)
    clear hown hz hbx e1 hn
    go_enter Tryz.func61, Tryz.ntmps61
    go_wp2
    first
    | (go_end0; exact ⟨rfl, ov, hf.out⟩)
    | (refine bodyPost_ret (results_none rfl _ _ _) rfl ?_; exact ⟨rfl, ov, hf.out⟩)
  · have ht : ¬ (4096 : Int) < ((st s).size : Int) := by rw [hsz.out]; omega
    have hq := quote_d (w := w) (s := s) (by omega)
    go_enter Tryz.func61, Tryz.ntmps61
    go_wp2_with fail
    refine hq.mono ?_
    rintro e w1 ⟨rfl, b1⟩
    have ha := add_d (s := qu s) (h.below b1)
    have hk := hide1 (Wk.ofB (q := q) (a := ov) b1)
    clear hq b1 h
    go_wp2_with fail
    refine ha.mono ?_
    rintro e w2 ⟨rfl, ov', h1, h2⟩
    have h3 := hide1 (hk.out.trans h2)
    replace h1 := hide1 h1
    clear ha hk h2
    go_wp2
    go_end0
    exact ⟨rfl, ov', h1.out, h3.out⟩
theorem Wt.fresh {w : World} {q : Nat} {ov : Value} {z : List UInt8} (h : Wt w q ov z) : w.heap.size ≠ q ∧ ov.ownBlock ≠ some w.heap.size := by
  obtain ⟨h1, out, ⟨_, ⟨rfl, _⟩ | ⟨g, cap, cur, rfl, hB, hg, _⟩⟩, _⟩ := h
  · exact ⟨by have := (Array.getElem?_eq_some_iff.1 h1).1; omega, fun e => by cases e⟩
  · exact ⟨by have := (Array.getElem?_eq_some_iff.1 h1).1; omega, fun e => by
      have e2 : g = w.heap.size := by simpa [Value.ownBlock] using e
      have h3 := (Array.getElem?_eq_some_iff.1 hg).1
      omega⟩
def Fr (F : Nat → Prop) (w : World) (q : Nat) (ov : Value) : Prop := ∀ k, F k → k < w.heap.size → k ≠ q ∧ ov.ownBlock ≠ some k
theorem RwA.wk {F : Nat → Prop} {w w' : World} {e : TypeId} {z q : Nat} {v ov ov' : Value} {cs : List (List Value)} (h : RwA F w e z v cs) (hF : Fr F w q ov) (hk : Wk q ov ov' w w') : RwA (fun k => F k ∧ k < w.heap.size) w' e z v cs :=
  h.frame (fun k hf hs => hk.block k hs (hF k hf hs).1 (hF k hf hs).2) (fun _ hf hs => ⟨hf, hs⟩)
theorem VA.wk {F : Nat → Prop} {w w' : World} {q : Nat} {ov ov' : Value} {t : T} {c : List Value} (h : VA F w t c) (hF : Fr F w q ov) (hk : Wk q ov ov' w w') : VA (fun k => F k ∧ k < w.heap.size) w' t c :=
  h.frame (fun k hf hs => hk.block k hs (hF k hf hs).1 (hF k hf hs).2) (fun _ hf hs => ⟨hf, hs⟩)
theorem Fr.wk {F : Nat → Prop} {w w' : World} {q : Nat} {ov ov' : Value} (hF : Fr F w q ov) (hk : Wk q ov ov' w w') : Fr (fun k => F k ∧ k < w.heap.size) w' q ov' := fun k hf _ =>
  ⟨(hF k hf.1 hf.2).1, fun e => (hk.own k e).elim (hF k hf.1 hf.2).2 fun h => by have := hf.2; omega⟩
set_option maxHeartbeats 4000000 in
set_option maxRecDepth 100000 in
theorem rowV_d {F : Nat → Prop} {w : World} {q : Nat} {ov v : Value} {zt : List UInt8} {l : List (T)} {cs : List (List Value)} {f : T → List UInt8} (r : RwA F w 28 5 v cs) (hl : cs.length = l.length) (hon : ∀ c ∈ cs, c.all (·.oneCell') = true) (hb : cs.length ≤ 1000000) (hF : Fr F w q ov) (hW : Wt w q ov zt)
    (hone : ∀ (j : Nat) (t : T) (c : List Value), l[j]? = some t → cs[j]? = some c → ∀ (w' : World) (ov' : Value) (z' : List UInt8), Wk q ov ov' w w' → Wt w' q ov' z' → Calls Tryz.prog 37 #[.pointer (some ⟨q, 0, none⟩), .agg c.toArray] w' (AnK q ov' (z' ++ f t) w')) :
    Calls Tryz.prog 62 #[.pointer (some ⟨q, 0, none⟩), .int .i32 91, .int .i32 93, v, .func (.func 37) #[.pointer (some ⟨q, 0, none⟩)] #[]] w (AnK q ov (zt ++ 91 :: (cj (l.map f) ++ [93])) w) := by
  obtain ⟨va, vc, rfl⟩ := r.slc
  have hs0 := sign_91 hW
  replace hone := hide1 hone
  replace hW := hide1 hW
  replace hF := hide1 hF
  replace r := hide1 r
  replace hon := hide1 hon
  replace hl := hide1 hl
  go_enter Tryz.func62, Tryz.ntmps62
  go_wp2_with fail
  refine hs0.mono ?_
  rintro e w1 ⟨rfl, ov1, h1, k1⟩
  have h2 : Hid (Wt w1 q ov1 (zt ++ 91 :: cj ((l.take 0).map f))) := hide1 h1
  replace k1 := hide1 k1
  clear hs0 h1
  go_wp2_with fail
  go_loopw [17] (fun s17 wr => ∃ (i : Nat) (ov' : Value), s17 = .int .i64 (i : Nat) ∧ i ≤ cs.length ∧ Hid (Wt wr q ov' (zt ++ 91 :: cj ((l.take i).map f))) ∧ Hid (Wk q ov ov' w wr)) (fun s17 _ => cs.length - (intOf s17).toNat)
  case atStart => exact ⟨0, ov1, rfl, Nat.zero_le _, h2, k1⟩
  case round =>
    obtain ⟨i, ov', rfl, hi, hWr, hKr⟩ := hrel
    by_cases hlt : i < cs.length
    · obtain ⟨t, ht⟩ : ∃ t, l[i]? = some t := ⟨_, List.getElem?_eq_getElem (by have := hl.out; omega)⟩
      obtain ⟨c, hc⟩ : ∃ c, cs[i]? = some c := ⟨_, List.getElem?_eq_getElem hlt⟩
      have rr := r.out.wk hF.out hKr.out
      obtain ⟨b, oo, cap, hve, -, hbl, hr⟩ := rr.at hc
      cases hve
      have hcz := rr.1 c (List.mem_of_getElem? hc)
      have hoc := hon.out c (List.mem_of_getElem? hc)
      obtain ⟨x0, x1, x2, x3, x4, rfl⟩ := five_l hcz
      have hcall := hone.out i t _ ht hc
      have htake : Hid ((l.take (i + 1)).map f = (l.take i).map f ++ [f t]) := hide1 (by
        rw [List.take_add_one, ht, List.map_append]; rfl)
      have hnil : Hid ((l.take i).map f = [] ↔ i = 0) := hide1 (by
        rw [List.map_eq_nil_iff, List.take_eq_nil_iff]
        constructor
        · rintro (h | h)
          · exact h
          · have := hl.out; rw [h, List.length_nil] at this; omega
        · exact fun h => .inl h)
      have hz : (wr.alloc (.cells #[.int .i64 0, .int .i64 0, .string ⟨#[]⟩, .slice none 0 0, .slice none 0 0] 28)).heap[wr.heap.size]? = some (.cells #[.int .i64 0, .int .i64 0, .string ⟨#[]⟩, .slice none 0 0, .slice none 0 0] 28 (0, 0)) := by
        show (wr.heap.push _)[wr.heap.size]? = _
        rw [Array.getElem?_push, if_pos rfl]
      have hz2 := setRow_heap (wr.alloc (.cells #[.int .i64 0, .int .i64 0, .string ⟨#[]⟩, .slice none 0 0, .slice none 0 0] 28)) wr.heap.size _ #[x0, x1, x2, x3, x4] _ _ hz
      have hbw : Below wr.heap.size wr ((wr.alloc (.cells #[.int .i64 0, .int .i64 0, .string ⟨#[]⟩, .slice none 0 0, .slice none 0 0] 28)).setRow wr.heap.size #[x0, x1, x2, x3, x4]) := blw_own ((Below.refl _ _).alloc (Nat.le_refl _) _) (Nat.le_refl _) _
      have hpw0 : wr.heap.size ≠ q ∧ ov'.ownBlock ≠ some wr.heap.size := hWr.out.fresh
      have hWa := hide1 (hWr.out.below hbw)
      have hKa := hide1 (hKr.out.below hbw)
      replace hcall := hide1 hcall
      have hoc' := hide1 hoc
      clear rr hoc hbl ht hc hcz hWr hKr hbw
      go_upto_region 4 with (first | refine wpList_load_mid rfl 28 (.tmp 20) rfl b (oo + i * 5) rfl [x0, x1, x2, x3, x4] _ hr Tryz.underlying28 rfl (by kernel_rfl) ?_ | refine wpList_store_row rfl 28 (.tmp 11) (.tmp 21) rfl wr.heap.size #[x0, x1, x2, x3, x4] rfl rfl 28 _ hz (by kernel_rfl) rfl (by simpa using hoc'.out) ?_)
      have hpw : Hid (wr.heap.size ≠ q ∧ ov'.ownBlock ≠ some wr.heap.size) := hide1 hpw0
      clear hz hoc'
      generalize (wr.alloc (.cells #[.int .i64 0, .int .i64 0, .string ⟨#[]⟩, .slice none 0 0, .slice none 0 0] 28)).setRow wr.heap.size #[x0, x1, x2, x3, x4] = wa at *
      generalize wr.heap.size = p at *
      by_cases hi0 : i = 0
      · have ezz : Hid (zt ++ 91 :: cj ((l.take i).map f) ++ f t = zt ++ 91 :: cj ((l.take (i + 1)).map f)) := hide1 (by
          have e1 : (l.take i).map f = [] := hnil.out.2 hi0
          rw [htake.out, cj_snoc, if_pos e1, e1]; simp [cj])
        have hig : ¬ (0 : Int) < (i : Int) := by omega
        have hl5 : wa.rangeAt p 0 [x0, x1, x2, x3, x4] := fun j u hj => by
          simp only [World.cell?, hz2]
          rw [Nat.zero_add]
          simpa using hj
        have hcc := hcall.out wa ov' _ hKa.out hWa.out
        have hz3 := hide1 hz2
        clear htake hnil hz2 hcall hi0
        go_wp2_with (first | refine wpList_load_mid rfl 28 (.tmp 11) rfl p 0 rfl [x0, x1, x2, x3, x4] _ hl5 Tryz.underlying28 rfl (by kernel_rfl) ?_ | fail)
        refine hcc.mono ?_
        rintro e w6 ⟨rfl, ov6, h6, k6⟩
        rw [ezz.out] at h6
        have hK6 := hide1 (hKa.out.trans k6)
        replace h6 := hide1 h6
        clear hcc k6 hKa hWa ezz hl5
        go_wp2
        go_roundw
        case rel => exact ⟨i + 1, ov6, by first | rfl | (congr 1; omega) | go_num, hlt, h6, hK6⟩
        case measure => simp [intOf]; omega
      · have ezz : Hid (zt ++ 91 :: cj ((l.take i).map f) ++ [44] ++ f t = zt ++ 91 :: cj ((l.take (i + 1)).map f)) := hide1 (by
          have e1 : ¬ (l.take i).map f = [] := fun e => hi0 (hnil.out.1 e)
          rw [htake.out, cj_snoc, if_neg e1]; simp)
        have hig : (0 : Int) < (i : Int) := by omega
        have hsg := sign_44 hWa.out
        have hz3 := hide1 hz2
        clear htake hnil hz2 hi0
        go_wp2_with fail
        refine hsg.mono ?_
        rintro e w5 ⟨rfl, ov5, h5, k5⟩
        have hbx5 := (k5.block p (Array.getElem?_eq_some_iff.1 hz3.out).1 hpw.out.1 hpw.out.2).trans hz3.out
        have hl5 : w5.rangeAt p 0 [x0, x1, x2, x3, x4] := fun j u hj => by
          simp only [World.cell?, hbx5]
          rw [Nat.zero_add]
          simpa using hj
        have hK5 := hide1 (hKa.out.trans k5)
        have hcc := hcall.out w5 ov5 _ hK5.out h5
        clear hsg k5 h5 hbx5 hKa hWa
        go_wp2_with (first | refine wpList_load_mid rfl 28 (.tmp 11) rfl p 0 rfl [x0, x1, x2, x3, x4] _ hl5 Tryz.underlying28 rfl (by kernel_rfl) ?_ | fail)
        refine hcc.mono ?_
        rintro e w6 ⟨rfl, ov6, h6, k6⟩
        rw [ezz.out] at h6
        have hK6 := hide1 (hK5.out.trans k6)
        replace h6 := hide1 h6
        clear hcc k6 hK5 ezz hl5
        go_wp2
        go_roundw
        case rel => exact ⟨i + 1, ov6, by first | rfl | (congr 1; omega) | go_num, hlt, h6, hK6⟩
        case measure => simp [intOf]; omega
    · have hie : i = cs.length := by omega
      subst hie
      have hs1 := sign_93 hWr.out
      have ezz : Hid (zt ++ 91 :: cj ((l.take cs.length).map f) ++ [93] = zt ++ 91 :: (cj (l.map f) ++ [93])) := hide1 (by rw [hl.out, List.take_length]; simp)
      clear hlt
      go_wp2_with fail
      refine hs1.mono ?_
      rintro e w6 ⟨rfl, ov6, h6, k6⟩
      rw [ezz.out] at h6
      have hK6 := hide1 (hKr.out.trans k6)
      replace h6 := hide1 h6
      clear hs1 k6 ezz hKr hWr
      go_wp2
      go_end0
      exact ⟨rfl, ov6, h6.out, hK6.out⟩
set_option maxHeartbeats 4000000 in
set_option maxRecDepth 100000 in
theorem rowP_d {F : Nat → Prop} {w : World} {q : Nat} {ov v : Value} {zt : List UInt8} {l : List (List UInt8 × T)} {cs : List (List Value)} {f : List UInt8 × T → List UInt8} (r : RwA F w 49 6 v cs) (hl : cs.length = l.length) (hon : ∀ c ∈ cs, c.all (·.oneCell') = true) (hb : cs.length ≤ 1000000) (hF : Fr F w q ov) (hW : Wt w q ov zt)
    (hone : ∀ (j : Nat) (t : List UInt8 × T) (c : List Value), l[j]? = some t → cs[j]? = some c → ∀ (w' : World) (ov' : Value) (z' : List UInt8), Wk q ov ov' w w' → Wt w' q ov' z' → Calls Tryz.prog 64 #[.pointer (some ⟨q, 0, none⟩), .agg c.toArray] w' (AnK q ov' (z' ++ f t) w')) :
    Calls Tryz.prog 63 #[.pointer (some ⟨q, 0, none⟩), .int .i32 123, .int .i32 125, v, .func (.func 64) #[.pointer (some ⟨q, 0, none⟩)] #[]] w (AnK q ov (zt ++ 123 :: (cj (l.map f) ++ [125])) w) := by
  obtain ⟨va, vc, rfl⟩ := r.slc
  have hs0 := sign_123 hW
  replace hone := hide1 hone
  replace hW := hide1 hW
  replace hF := hide1 hF
  replace r := hide1 r
  replace hon := hide1 hon
  replace hl := hide1 hl
  go_enter Tryz.func63, Tryz.ntmps63
  go_wp2_with fail
  refine hs0.mono ?_
  rintro e w1 ⟨rfl, ov1, h1, k1⟩
  have h2 : Hid (Wt w1 q ov1 (zt ++ 123 :: cj ((l.take 0).map f))) := hide1 h1
  replace k1 := hide1 k1
  clear hs0 h1
  go_wp2_with fail
  go_loopw [17] (fun s17 wr => ∃ (i : Nat) (ov' : Value), s17 = .int .i64 (i : Nat) ∧ i ≤ cs.length ∧ Hid (Wt wr q ov' (zt ++ 123 :: cj ((l.take i).map f))) ∧ Hid (Wk q ov ov' w wr)) (fun s17 _ => cs.length - (intOf s17).toNat)
  case atStart => exact ⟨0, ov1, rfl, Nat.zero_le _, h2, k1⟩
  case round =>
    obtain ⟨i, ov', rfl, hi, hWr, hKr⟩ := hrel
    by_cases hlt : i < cs.length
    · obtain ⟨t, ht⟩ : ∃ t, l[i]? = some t := ⟨_, List.getElem?_eq_getElem (by have := hl.out; omega)⟩
      obtain ⟨c, hc⟩ : ∃ c, cs[i]? = some c := ⟨_, List.getElem?_eq_getElem hlt⟩
      have rr := r.out.wk hF.out hKr.out
      obtain ⟨b, oo, cap, hve, -, hbl, hr⟩ := rr.at hc
      cases hve
      have hcz := rr.1 c (List.mem_of_getElem? hc)
      have hoc := hon.out c (List.mem_of_getElem? hc)
      obtain ⟨x0, x1, x2, x3, x4, x5, rfl⟩ := arr6 hcz
      have hcall := hone.out i t _ ht hc
      have htake : Hid ((l.take (i + 1)).map f = (l.take i).map f ++ [f t]) := hide1 (by
        rw [List.take_add_one, ht, List.map_append]; rfl)
      have hnil : Hid ((l.take i).map f = [] ↔ i = 0) := hide1 (by
        rw [List.map_eq_nil_iff, List.take_eq_nil_iff]
        constructor
        · rintro (h | h)
          · exact h
          · have := hl.out; rw [h, List.length_nil] at this; omega
        · exact fun h => .inl h)
      have hz : (wr.alloc (.cells #[.string ⟨#[]⟩, .int .i64 0, .int .i64 0, .string ⟨#[]⟩, .slice none 0 0, .slice none 0 0] 49)).heap[wr.heap.size]? = some (.cells #[.string ⟨#[]⟩, .int .i64 0, .int .i64 0, .string ⟨#[]⟩, .slice none 0 0, .slice none 0 0] 49 (0, 0)) := by
        show (wr.heap.push _)[wr.heap.size]? = _
        rw [Array.getElem?_push, if_pos rfl]
      have hz2 := setRow_heap (wr.alloc (.cells #[.string ⟨#[]⟩, .int .i64 0, .int .i64 0, .string ⟨#[]⟩, .slice none 0 0, .slice none 0 0] 49)) wr.heap.size _ #[x0, x1, x2, x3, x4, x5] _ _ hz
      have hbw : Below wr.heap.size wr ((wr.alloc (.cells #[.string ⟨#[]⟩, .int .i64 0, .int .i64 0, .string ⟨#[]⟩, .slice none 0 0, .slice none 0 0] 49)).setRow wr.heap.size #[x0, x1, x2, x3, x4, x5]) := blw_own ((Below.refl _ _).alloc (Nat.le_refl _) _) (Nat.le_refl _) _
      have hpw0 : wr.heap.size ≠ q ∧ ov'.ownBlock ≠ some wr.heap.size := hWr.out.fresh
      have hWa := hide1 (hWr.out.below hbw)
      have hKa := hide1 (hKr.out.below hbw)
      replace hcall := hide1 hcall
      have hoc' := hide1 hoc
      clear rr hoc hbl ht hc hcz hWr hKr hbw
      go_upto_region 4 with (first | refine wpList_load_mid rfl 49 (.tmp 20) rfl b (oo + i * 6) rfl [x0, x1, x2, x3, x4, x5] _ hr Tryz.underlying49 rfl (by kernel_rfl) ?_ | refine wpList_store_row rfl 49 (.tmp 11) (.tmp 21) rfl wr.heap.size #[x0, x1, x2, x3, x4, x5] rfl rfl 49 _ hz (by kernel_rfl) rfl (by simpa using hoc'.out) ?_)
      have hpw : Hid (wr.heap.size ≠ q ∧ ov'.ownBlock ≠ some wr.heap.size) := hide1 hpw0
      clear hz hoc'
      generalize (wr.alloc (.cells #[.string ⟨#[]⟩, .int .i64 0, .int .i64 0, .string ⟨#[]⟩, .slice none 0 0, .slice none 0 0] 49)).setRow wr.heap.size #[x0, x1, x2, x3, x4, x5] = wa at *
      generalize wr.heap.size = p at *
      by_cases hi0 : i = 0
      · have ezz : Hid (zt ++ 123 :: cj ((l.take i).map f) ++ f t = zt ++ 123 :: cj ((l.take (i + 1)).map f)) := hide1 (by
          have e1 : (l.take i).map f = [] := hnil.out.2 hi0
          rw [htake.out, cj_snoc, if_pos e1, e1]; simp [cj])
        have hig : ¬ (0 : Int) < (i : Int) := by omega
        have hl5 : wa.rangeAt p 0 [x0, x1, x2, x3, x4, x5] := fun j u hj => by
          simp only [World.cell?, hz2]
          rw [Nat.zero_add]
          simpa using hj
        have hcc := hcall.out wa ov' _ hKa.out hWa.out
        have hz3 := hide1 hz2
        clear htake hnil hz2 hcall hi0
        go_wp2_with (first | refine wpList_load_mid rfl 49 (.tmp 11) rfl p 0 rfl [x0, x1, x2, x3, x4, x5] _ hl5 Tryz.underlying49 rfl (by kernel_rfl) ?_ | fail)
        refine hcc.mono ?_
        rintro e w6 ⟨rfl, ov6, h6, k6⟩
        rw [ezz.out] at h6
        have hK6 := hide1 (hKa.out.trans k6)
        replace h6 := hide1 h6
        clear hcc k6 hKa hWa ezz hl5
        go_wp2
        go_roundw
        case rel => exact ⟨i + 1, ov6, by first | rfl | (congr 1; omega) | go_num, hlt, h6, hK6⟩
        case measure => simp [intOf]; omega
      · have ezz : Hid (zt ++ 123 :: cj ((l.take i).map f) ++ [44] ++ f t = zt ++ 123 :: cj ((l.take (i + 1)).map f)) := hide1 (by
          have e1 : ¬ (l.take i).map f = [] := fun e => hi0 (hnil.out.1 e)
          rw [htake.out, cj_snoc, if_neg e1]; simp)
        have hig : (0 : Int) < (i : Int) := by omega
        have hsg := sign_44 hWa.out
        have hz3 := hide1 hz2
        clear htake hnil hz2 hi0
        go_wp2_with fail
        refine hsg.mono ?_
        rintro e w5 ⟨rfl, ov5, h5, k5⟩
        have hbx5 := (k5.block p (Array.getElem?_eq_some_iff.1 hz3.out).1 hpw.out.1 hpw.out.2).trans hz3.out
        have hl5 : w5.rangeAt p 0 [x0, x1, x2, x3, x4, x5] := fun j u hj => by
          simp only [World.cell?, hbx5]
          rw [Nat.zero_add]
          simpa using hj
        have hK5 := hide1 (hKa.out.trans k5)
        have hcc := hcall.out w5 ov5 _ hK5.out h5
        clear hsg k5 h5 hbx5 hKa hWa
        go_wp2_with (first | refine wpList_load_mid rfl 49 (.tmp 11) rfl p 0 rfl [x0, x1, x2, x3, x4, x5] _ hl5 Tryz.underlying49 rfl (by kernel_rfl) ?_ | fail)
        refine hcc.mono ?_
        rintro e w6 ⟨rfl, ov6, h6, k6⟩
        rw [ezz.out] at h6
        have hK6 := hide1 (hK5.out.trans k6)
        replace h6 := hide1 h6
        clear hcc k6 hK5 ezz hl5
        go_wp2
        go_roundw
        case rel => exact ⟨i + 1, ov6, by first | rfl | (congr 1; omega) | go_num, hlt, h6, hK6⟩
        case measure => simp [intOf]; omega
    · have hie : i = cs.length := by omega
      subst hie
      have hs1 := sign_125 hWr.out
      have ezz : Hid (zt ++ 123 :: cj ((l.take cs.length).map f) ++ [125] = zt ++ 123 :: (cj (l.map f) ++ [125])) := hide1 (by rw [hl.out, List.take_length]; simp)
      clear hlt
      go_wp2_with fail
      refine hs1.mono ?_
      rintro e w6 ⟨rfl, ov6, h6, k6⟩
      rw [ezz.out] at h6
      have hK6 := hide1 (hKr.out.trans k6)
      replace h6 := hide1 h6
      clear hs1 k6 ezz hKr hWr
      go_wp2
      go_end0
      exact ⟨rfl, ov6, h6.out, hK6.out⟩
theorem AnK.ofB {q : Nat} {ov : Value} {z : List UInt8} {w w1 w' : World} {e : Ending} (hb : Below w.heap.size w w1) (h : AnK q ov z w1 e w') : AnK q ov z w e w' := by
  obtain ⟨h1, ov', h2, h3⟩ := h
  exact ⟨h1, ov', h2, (Wk.ofB hb).trans h3⟩
set_option maxHeartbeats 1600000 in
set_option maxRecDepth 100000 in
theorem val_0 {w : World} {q : Nat} {ov sl sp : Value} {z s : List UInt8} {ki : Int}  (hW : Wt w q ov z) : Calls Tryz.prog 37 #[.pointer (some ⟨q, 0, none⟩), .agg #[.int .i64 0, .int .i64 ki, .string (st s), sl, sp]] w (AnK q ov (z ++ [110, 117, 108, 108]) w) := by
  obtain ⟨wb, hwb⟩ : ∃ wb, wb = w.alloc (.cells #[.int .i64 0, .int .i64 ki, .string (st s), sl, sp] 28) := ⟨_, rfl⟩
  have hB : Below w.heap.size w wb := by rw [hwb]; exact (Below.refl _ _).alloc (Nat.le_refl _) _
  have hn : wb.heap[w.heap.size]? = some (.cells #[.int .i64 0, .int .i64 ki, .string (st s), sl, sp] 28 (0, 0)) := by
    rw [hwb]
    show (w.heap.push _)[w.heap.size]? = _
    rw [Array.getElem?_push, if_pos rfl]
  have c0 : wb.cell? ⟨w.heap.size, 0, none⟩ = some (.int .i64 0) := by simp only [World.cell?, hn]; rfl
  have c1 : wb.cell? ⟨w.heap.size, 1, none⟩ = some (.int .i64 ki) := by simp only [World.cell?, hn]; rfl
  have c2 : wb.cell? ⟨w.heap.size, 2, none⟩ = some (.string (st s)) := by simp only [World.cell?, hn]; rfl
  have c3 : wb.cell? ⟨w.heap.size, 3, none⟩ = some sl := by simp only [World.cell?, hn]; rfl
  have c4 : wb.cell? ⟨w.heap.size, 4, none⟩ = some sp := by simp only [World.cell?, hn]; rfl
  have hWb := hW.below hB
  have ha := add_d (s := [110, 117, 108, 108]) hWb
  replace ha : Calls Tryz.prog 58 #[.pointer (some ⟨q, 0, none⟩), .string ⟨#[110, 117, 108, 108]⟩] wb _ := ha
  replace hWb := hide1 hWb
  replace hB := hide1 hB
  clear hW hn
  go_enter Tryz.func37, Tryz.ntmps37
  go_upto_region 1 with fail
  rw [← hwb]
  clear hwb
  go_wp2_with fail
  refine ha.mono ?_
  rintro e w1 ⟨rfl, ov', h1, h2⟩
  clear ha
  go_wp2
  go_end0
  exact AnK.ofB hB.out ⟨rfl, ov', h1, h2⟩
set_option maxHeartbeats 1600000 in
set_option maxRecDepth 100000 in
theorem val_1 {w : World} {q : Nat} {ov sl sp : Value} {z s : List UInt8} {ki : Int}  (hW : Wt w q ov z) : Calls Tryz.prog 37 #[.pointer (some ⟨q, 0, none⟩), .agg #[.int .i64 1, .int .i64 ki, .string (st s), sl, sp]] w (AnK q ov (z ++ Lib.formatBool (decide (ki = 1))) w) := by
  obtain ⟨wb, hwb⟩ : ∃ wb, wb = w.alloc (.cells #[.int .i64 1, .int .i64 ki, .string (st s), sl, sp] 28) := ⟨_, rfl⟩
  have hB : Below w.heap.size w wb := by rw [hwb]; exact (Below.refl _ _).alloc (Nat.le_refl _) _
  have hn : wb.heap[w.heap.size]? = some (.cells #[.int .i64 1, .int .i64 ki, .string (st s), sl, sp] 28 (0, 0)) := by
    rw [hwb]
    show (w.heap.push _)[w.heap.size]? = _
    rw [Array.getElem?_push, if_pos rfl]
  have c0 : wb.cell? ⟨w.heap.size, 0, none⟩ = some (.int .i64 1) := by simp only [World.cell?, hn]; rfl
  have c1 : wb.cell? ⟨w.heap.size, 1, none⟩ = some (.int .i64 ki) := by simp only [World.cell?, hn]; rfl
  have c2 : wb.cell? ⟨w.heap.size, 2, none⟩ = some (.string (st s)) := by simp only [World.cell?, hn]; rfl
  have c3 : wb.cell? ⟨w.heap.size, 3, none⟩ = some sl := by simp only [World.cell?, hn]; rfl
  have c4 : wb.cell? ⟨w.heap.size, 4, none⟩ = some sp := by simp only [World.cell?, hn]; rfl
  have hWb := hW.below hB
  have ha := add_d (s := Lib.formatBool (decide (ki = 1))) hWb
  have hfb := fun w => strconv_FormatBool (decide (ki = 1)) w
  have hkb : (ki == 1) = decide (ki = 1) := by by_cases h : ki = 1 <;> simp [h]
  replace ha : Calls Tryz.prog 58 #[.pointer (some ⟨q, 0, none⟩), .string ⟨(Lib.formatBool (decide (ki = 1))).toArray⟩] wb _ := ha
  generalize hdk : decide (ki = 1) = B at *
  replace hWb := hide1 hWb
  replace hB := hide1 hB
  clear hW hn
  go_enter Tryz.func37, Tryz.ntmps37
  go_upto_region 1 with fail
  rw [← hwb]
  clear hwb
  go_wp2_with fail
  refine (hfb _).mono ?_
  rintro e w0 ⟨rfl, rfl⟩
  go_wp2_with fail
  refine ha.mono ?_
  rintro e w1 ⟨rfl, ov', h1, h2⟩
  clear ha
  go_wp2
  go_end0
  exact AnK.ofB hB.out ⟨rfl, ov', h1, h2⟩
set_option maxHeartbeats 1600000 in
set_option maxRecDepth 100000 in
theorem val_2 {w : World} {q : Nat} {ov sl sp : Value} {z s : List UInt8} {ki : Int} (hr : -9223372036854775808 ≤ ki ∧ ki ≤ 9223372036854775807) (hT : Ev w) (h8 : 8 ≤ w.heap.size) (hW : Wt w q ov z) : Calls Tryz.prog 37 #[.pointer (some ⟨q, 0, none⟩), .agg #[.int .i64 2, .int .i64 ki, .string (st s), sl, sp]] w (AnK q ov (z ++ Lib.itoa ki) w) := by
  obtain ⟨wb, hwb⟩ : ∃ wb, wb = w.alloc (.cells #[.int .i64 2, .int .i64 ki, .string (st s), sl, sp] 28) := ⟨_, rfl⟩
  have hB : Below w.heap.size w wb := by rw [hwb]; exact (Below.refl _ _).alloc (Nat.le_refl _) _
  have hn : wb.heap[w.heap.size]? = some (.cells #[.int .i64 2, .int .i64 ki, .string (st s), sl, sp] 28 (0, 0)) := by
    rw [hwb]
    show (w.heap.push _)[w.heap.size]? = _
    rw [Array.getElem?_push, if_pos rfl]
  have c0 : wb.cell? ⟨w.heap.size, 0, none⟩ = some (.int .i64 2) := by simp only [World.cell?, hn]; rfl
  have c1 : wb.cell? ⟨w.heap.size, 1, none⟩ = some (.int .i64 ki) := by simp only [World.cell?, hn]; rfl
  have c2 : wb.cell? ⟨w.heap.size, 2, none⟩ = some (.string (st s)) := by simp only [World.cell?, hn]; rfl
  have c3 : wb.cell? ⟨w.heap.size, 3, none⟩ = some sl := by simp only [World.cell?, hn]; rfl
  have c4 : wb.cell? ⟨w.heap.size, 4, none⟩ = some sp := by simp only [World.cell?, hn]; rfl
  have hWb := hW.below hB
  have hi := strconv_Itoa ki (by have := hr.1; omega) (by have := hr.2; omega) wb (hT.below hB (by omega)).pw
  replace hWb := hide1 hWb
  replace hB := hide1 hB
  clear hW hn
  go_enter Tryz.func37, Tryz.ntmps37
  go_upto_region 1 with fail
  rw [← hwb]
  clear hwb
  go_wp2_with fail
  refine hi.mono ?_
  rintro e w0 ⟨rfl, nk, os, hw0⟩
  have hb0 : Below wb.heap.size wb w0 := below_grow ⟨nk, os, hw0⟩
  have ha := add_d (s := Lib.itoa ki) (hWb.out.below hb0)
  replace ha : Calls Tryz.prog 58 #[.pointer (some ⟨q, 0, none⟩), .string ⟨(Lib.itoa ki).toArray⟩] w0 _ := ha
  replace hb0 := hide1 hb0
  clear hi hw0
  go_wp2_with fail
  refine ha.mono ?_
  rintro e w1 ⟨rfl, ov', h1, h2⟩
  clear ha
  go_wp2
  go_end0
  exact AnK.ofB hB.out (AnK.ofB hb0.out ⟨rfl, ov', h1, h2⟩)
set_option maxHeartbeats 1600000 in
set_option maxRecDepth 100000 in
theorem val_3 {w : World} {q : Nat} {ov sl sp : Value} {z s : List UInt8} {ki : Int}  (hW : Wt w q ov z) : Calls Tryz.prog 37 #[.pointer (some ⟨q, 0, none⟩), .agg #[.int .i64 3, .int .i64 ki, .string (st s), sl, sp]] w (AnK q ov (z ++ qu s) w) := by
  obtain ⟨wb, hwb⟩ : ∃ wb, wb = w.alloc (.cells #[.int .i64 3, .int .i64 ki, .string (st s), sl, sp] 28) := ⟨_, rfl⟩
  have hB : Below w.heap.size w wb := by rw [hwb]; exact (Below.refl _ _).alloc (Nat.le_refl _) _
  have hn : wb.heap[w.heap.size]? = some (.cells #[.int .i64 3, .int .i64 ki, .string (st s), sl, sp] 28 (0, 0)) := by
    rw [hwb]
    show (w.heap.push _)[w.heap.size]? = _
    rw [Array.getElem?_push, if_pos rfl]
  have c0 : wb.cell? ⟨w.heap.size, 0, none⟩ = some (.int .i64 3) := by simp only [World.cell?, hn]; rfl
  have c1 : wb.cell? ⟨w.heap.size, 1, none⟩ = some (.int .i64 ki) := by simp only [World.cell?, hn]; rfl
  have c2 : wb.cell? ⟨w.heap.size, 2, none⟩ = some (.string (st s)) := by simp only [World.cell?, hn]; rfl
  have c3 : wb.cell? ⟨w.heap.size, 3, none⟩ = some sl := by simp only [World.cell?, hn]; rfl
  have c4 : wb.cell? ⟨w.heap.size, 4, none⟩ = some sp := by simp only [World.cell?, hn]; rfl
  have hWb := hW.below hB
  have ha := quoted_w (s := s) hWb
  replace hWb := hide1 hWb
  replace hB := hide1 hB
  clear hW hn
  go_enter Tryz.func37, Tryz.ntmps37
  go_upto_region 1 with fail
  rw [← hwb]
  clear hwb
  go_wp2_with fail
  refine ha.mono ?_
  rintro e w1 ⟨rfl, ov', h1, h2⟩
  clear ha
  go_wp2
  go_end0
  exact AnK.ofB hB.out ⟨rfl, ov', h1, h2⟩
set_option maxHeartbeats 1600000 in
set_option maxRecDepth 100000 in
theorem val_4 {w : World} {q : Nat} {ov sl sp : Value} {z s : List UInt8} {ki : Int} {X : List UInt8} (hrow : ∀ w1, Below w.heap.size w w1 → Wt w1 q ov z → Calls Tryz.prog 62 #[.pointer (some ⟨q, 0, none⟩), .int .i32 91, .int .i32 93, sl, .func (.func 37) #[.pointer (some ⟨q, 0, none⟩)] #[]] w1 (AnK q ov (z ++ X) w1)) (hW : Wt w q ov z) : Calls Tryz.prog 37 #[.pointer (some ⟨q, 0, none⟩), .agg #[.int .i64 4, .int .i64 ki, .string (st s), sl, sp]] w (AnK q ov (z ++ X) w) := by
  obtain ⟨wb, hwb⟩ : ∃ wb, wb = w.alloc (.cells #[.int .i64 4, .int .i64 ki, .string (st s), sl, sp] 28) := ⟨_, rfl⟩
  have hB : Below w.heap.size w wb := by rw [hwb]; exact (Below.refl _ _).alloc (Nat.le_refl _) _
  have hn : wb.heap[w.heap.size]? = some (.cells #[.int .i64 4, .int .i64 ki, .string (st s), sl, sp] 28 (0, 0)) := by
    rw [hwb]
    show (w.heap.push _)[w.heap.size]? = _
    rw [Array.getElem?_push, if_pos rfl]
  have c0 : wb.cell? ⟨w.heap.size, 0, none⟩ = some (.int .i64 4) := by simp only [World.cell?, hn]; rfl
  have c1 : wb.cell? ⟨w.heap.size, 1, none⟩ = some (.int .i64 ki) := by simp only [World.cell?, hn]; rfl
  have c2 : wb.cell? ⟨w.heap.size, 2, none⟩ = some (.string (st s)) := by simp only [World.cell?, hn]; rfl
  have c3 : wb.cell? ⟨w.heap.size, 3, none⟩ = some sl := by simp only [World.cell?, hn]; rfl
  have c4 : wb.cell? ⟨w.heap.size, 4, none⟩ = some sp := by simp only [World.cell?, hn]; rfl
  have hWb := hW.below hB
  have ha := hrow wb hB hWb
  replace hWb := hide1 hWb
  replace hB := hide1 hB
  clear hW hn
  go_enter Tryz.func37, Tryz.ntmps37
  go_upto_region 1 with fail
  rw [← hwb]
  clear hwb
  go_wp2_with fail
  refine ha.mono ?_
  rintro e w1 ⟨rfl, ov', h1, h2⟩
  clear ha
  go_wp2
  go_end0
  exact AnK.ofB hB.out ⟨rfl, ov', h1, h2⟩
set_option maxHeartbeats 1600000 in
set_option maxRecDepth 100000 in
theorem val_5 {w : World} {q : Nat} {ov sl sp : Value} {z s : List UInt8} {ki : Int} {X : List UInt8} (hrow : ∀ w1, Below w.heap.size w w1 → Wt w1 q ov z → Calls Tryz.prog 63 #[.pointer (some ⟨q, 0, none⟩), .int .i32 123, .int .i32 125, sp, .func (.func 64) #[.pointer (some ⟨q, 0, none⟩)] #[]] w1 (AnK q ov (z ++ X) w1)) (hW : Wt w q ov z) : Calls Tryz.prog 37 #[.pointer (some ⟨q, 0, none⟩), .agg #[.int .i64 5, .int .i64 ki, .string (st s), sl, sp]] w (AnK q ov (z ++ X) w) := by
  obtain ⟨wb, hwb⟩ : ∃ wb, wb = w.alloc (.cells #[.int .i64 5, .int .i64 ki, .string (st s), sl, sp] 28) := ⟨_, rfl⟩
  have hB : Below w.heap.size w wb := by rw [hwb]; exact (Below.refl _ _).alloc (Nat.le_refl _) _
  have hn : wb.heap[w.heap.size]? = some (.cells #[.int .i64 5, .int .i64 ki, .string (st s), sl, sp] 28 (0, 0)) := by
    rw [hwb]
    show (w.heap.push _)[w.heap.size]? = _
    rw [Array.getElem?_push, if_pos rfl]
  have c0 : wb.cell? ⟨w.heap.size, 0, none⟩ = some (.int .i64 5) := by simp only [World.cell?, hn]; rfl
  have c1 : wb.cell? ⟨w.heap.size, 1, none⟩ = some (.int .i64 ki) := by simp only [World.cell?, hn]; rfl
  have c2 : wb.cell? ⟨w.heap.size, 2, none⟩ = some (.string (st s)) := by simp only [World.cell?, hn]; rfl
  have c3 : wb.cell? ⟨w.heap.size, 3, none⟩ = some sl := by simp only [World.cell?, hn]; rfl
  have c4 : wb.cell? ⟨w.heap.size, 4, none⟩ = some sp := by simp only [World.cell?, hn]; rfl
  have hWb := hW.below hB
  have ha := hrow wb hB hWb
  replace hWb := hide1 hWb
  replace hB := hide1 hB
  clear hW hn
  go_enter Tryz.func37, Tryz.ntmps37
  go_upto_region 1 with fail
  rw [← hwb]
  clear hwb
  go_wp2_with fail
  refine ha.mono ?_
  rintro e w1 ⟨rfl, ov', h1, h2⟩
  clear ha
  go_wp2
  go_end0
  exact AnK.ofB hB.out ⟨rfl, ov', h1, h2⟩
theorem pair_w {w : World} {q : Nat} {ov : Value} {z s X : List UInt8} {c : List Value} (hc : c.length = 5) (hW : Wt w q ov z)
    (hval : ∀ (w1 : World) (ov1 : Value) (z1 : List UInt8), Wk q ov ov1 w w1 → Wt w1 q ov1 z1 → Calls Tryz.prog 37 #[.pointer (some ⟨q, 0, none⟩), .agg c.toArray] w1 (AnK q ov1 (z1 ++ X) w1)) :
    Calls Tryz.prog 64 #[.pointer (some ⟨q, 0, none⟩), .agg (Value.string (st s) :: c).toArray] w (AnK q ov (z ++ (qu s ++ 58 :: X)) w) := by
  obtain ⟨x1, x2, x3, x4, x5, rfl⟩ := five_l hc
  obtain ⟨wb, hwb⟩ : ∃ wb, wb = w.alloc (.cells #[.string (st s), x1, x2, x3, x4, x5] 49) := ⟨_, rfl⟩
  have hB : Below w.heap.size w wb := by rw [hwb]; exact (Below.refl _ _).alloc (Nat.le_refl _) _
  have hn : wb.heap[w.heap.size]? = some (.cells #[.string (st s), x1, x2, x3, x4, x5] 49 (0, 0)) := by
    rw [hwb]
    show (w.heap.push _)[w.heap.size]? = _
    rw [Array.getElem?_push, if_pos rfl]
  have c0 : wb.cell? ⟨w.heap.size, 0, none⟩ = some (.string (st s)) := by simp only [World.cell?, hn]; rfl
  obtain ⟨f1, f2⟩ := hW.fresh
  have hWb := hW.below hB
  have ha := quoted_w (s := s) hWb
  have hkb : Wk q ov ov w wb := Wk.ofB hB
  obtain ⟨p, hp⟩ : ∃ p, p = w.heap.size := ⟨_, rfl⟩
  rw [← hp] at hn c0 f1 f2
  have hpl : p < wb.heap.size := (Array.getElem?_eq_some_iff.1 hn).1
  replace hn := hide1 hn
  replace hkb := hide1 hkb
  clear hW hWb hB
  show Calls Tryz.prog 64 #[.pointer (some ⟨q, 0, none⟩), .agg #[.string (st s), x1, x2, x3, x4, x5]] w _
  go_enter Tryz.func64, Tryz.ntmps64
  go_upto_region 1 with fail
  rw [← hwb, ← hp]
  clear hwb hp
  go_wp2_with fail
  refine ha.mono ?_
  rintro e w1 ⟨rfl, ov1, h1, k1⟩
  have hn1 := (k1.block p hpl f1 f2).trans hn.out
  have hp1 : p ≠ q ∧ ov1.ownBlock ≠ some p := ⟨f1, fun e => (k1.own p e).elim f2 fun h => by omega⟩
  have hpl1 : p < w1.heap.size := (Array.getElem?_eq_some_iff.1 hn1).1
  have hs := sign_58 h1
  have hk1 := hide1 (hkb.out.trans k1)
  replace hn1 := hide1 hn1
  clear ha h1 k1 hn hkb c0
  go_wp2_with fail
  refine hs.mono ?_
  rintro e w2 ⟨rfl, ov2, h2, k2⟩
  have hn2 := (k2.block p hpl1 hp1.1 hp1.2).trans hn1.out
  have hr : w2.rangeAt p 1 [x1, x2, x3, x4, x5] := fun j u hj => by
    simp only [World.cell?, hn2]
    match j, hj with
    | 0, hj | 1, hj | 2, hj | 3, hj | 4, hj => simpa using hj
    | _ + 5, hj => simp at hj
  have hk2 := hide1 (hk1.out.trans k2)
  have hv := hval w2 ov2 _ hk2.out h2
  clear hs h2 k2 hn2 hn1 hk1
  go_wp2_with (first | refine wpList_load_mid rfl 28 (.tmp 11) rfl p 1 rfl [x1, x2, x3, x4, x5] _ hr Tryz.underlying28 rfl (by kernel_rfl) ?_ | fail)
  refine hv.mono ?_
  rintro e w3 ⟨rfl, ov3, h3, k3⟩
  have hk3 := hide1 (hk2.out.trans k3)
  have h3' : Hid (Wt w3 q ov3 (z ++ (qu s ++ 58 :: X))) := hide1 (by simpa [List.append_assoc] using h3)
  clear hv h3 k3 hk2 hr
  go_wp2
  go_end0
  exact ⟨rfl, ov3, h3'.out, hk3.out⟩
end Go.Proofs.YtbemaloaobeblaaGreatDoor

namespace Go.Proofs.YtbemaloaobeblaaGreatDoor
open Go.RowKit

def sgn (c : Nat) : List UInt8 :=
  if c < 128 then [UInt8.ofNat c] else if c < 2048 then [UInt8.ofNat (192 + c / 64), UInt8.ofNat (128 + c % 64)]
  else if c < 65536 then [UInt8.ofNat (224 + c / 4096), UInt8.ofNat (128 + c / 64 % 64), UInt8.ofNat (128 + c % 64)]
  else [UInt8.ofNat (240 + c / 262144), UInt8.ofNat (128 + c / 4096 % 64), UInt8.ofNat (128 + c / 64 % 64), UInt8.ofNat (128 + c % 64)]
def bc (l : List UInt8) : Array Value := (l.map fun x => Value.int .u8 (x.toNat : Nat)).toArray
theorem of_u8 {n : Nat} (h : n < 256) : (UInt8.ofNat n).toNat = n := by simp; omega
set_option maxHeartbeats 4000000 in
set_option maxRecDepth 100000 in
theorem rsign_d {c : Nat} (hc : c ≤ 1114111) {w : World} : Calls Tryz.prog 88 #[.int .i64 (c : Nat)] w fun e w' => e = .returned (.slice (some ⟨w.heap.size, 0, none⟩) (sgn c).length (sgn c).length) ∧ w' = w.alloc (.cells (bc (sgn c)) 5) := by
  unfold sgn
  by_cases h1 : c < 128
  · rw [if_pos h1]
    simp only [bc, List.map_cons, List.map_nil, List.length_cons, List.length_nil]
    rw [of_u8 (by omega)]
    go_enter Tryz.func88, Tryz.ntmps88
    go_wp2
    go_ret
    exact ⟨rfl, rfl⟩
  rw [if_neg h1]
  by_cases h2 : c < 2048
  · rw [if_pos h2]
    simp only [bc, List.map_cons, List.map_nil, List.length_cons, List.length_nil]
    rw [of_u8 (by omega), of_u8 (by omega)]
    go_enter Tryz.func88, Tryz.ntmps88
    go_wp2
    go_ret
    exact ⟨rfl, rfl⟩
  rw [if_neg h2]
  by_cases h3 : c < 65536
  · rw [if_pos h3]
    simp only [bc, List.map_cons, List.map_nil, List.length_cons, List.length_nil]
    rw [of_u8 (by omega), of_u8 (by omega), of_u8 (by omega)]
    have d1 : decide ((c : Int) < 128) = false := decide_eq_false (by omega)
    have d2 : decide ((c : Int) < 2048) = false := decide_eq_false (by omega)
    have d3 : decide ((c : Int) < 65536) = true := decide_eq_true (by omega)
    have b1 : c / 4096 < 16 := by omega
    clear h1 h2 h3 hc
    go_enter Tryz.func88, Tryz.ntmps88
    go_wp2
    go_ret
    exact ⟨rfl, rfl⟩
  rw [if_neg h3]
  simp only [bc, List.map_cons, List.map_nil, List.length_cons, List.length_nil]
  rw [of_u8 (by omega), of_u8 (by omega), of_u8 (by omega), of_u8 (by omega)]
  have d1 : decide ((c : Int) < 128) = false := decide_eq_false (by omega)
  have d2 : decide ((c : Int) < 2048) = false := decide_eq_false (by omega)
  have d3 : decide ((c : Int) < 65536) = false := decide_eq_false (by omega)
  have b1 : c / 262144 < 5 := by omega
  clear h1 h2 h3 hc
  go_enter Tryz.func88, Tryz.ntmps88
  go_wp2
  go_ret
  exact ⟨rfl, rfl⟩
end Go.Proofs.YtbemaloaobeblaaGreatDoor

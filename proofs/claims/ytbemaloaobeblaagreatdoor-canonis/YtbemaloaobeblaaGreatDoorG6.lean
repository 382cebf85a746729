/- CA3, CA5, CA6, KR1, KR2, KR3, KR4, KP1, KP2, KP3: laid together. -/
import Derived.BigQuiet
import Derived.Lib.ValidLaws
import Derived.Lib.ConvBytes
import Derived.Test.YtbemaloaobeblaaGreatDoorG5
import Derived.Test.YtbemaloaobeblaaGreatDoorG4
import Derived.Test.YtbemaloaobeblaaGreatDoorG3
import Derived.Test.YtbemaloaobeblaaGreatDoorG2
namespace Go.Proofs.YtbemaloaobeblaaGreatDoor
open Go.RowKit

theorem clip_V {a : Option Addr} {cap : Nat} {w : World} : Calls Tryz.prog 68 #[.slice a 0 cap] w fun e w' => e = .returned (.slice a 0 0) ∧ w' = w := by
 go_enter Tryz.func68, Tryz.ntmps68
 cases a <;> go_wp2 <;> go_ret <;> exact ⟨rfl, rfl⟩
theorem clip_P {a : Option Addr} {cap : Nat} {w : World} : Calls Tryz.prog 69 #[.slice a 0 cap] w fun e w' => e = .returned (.slice a 0 0) ∧ w' = w := by
 go_enter Tryz.func69, Tryz.ntmps69
 cases a <;> go_wp2 <;> go_ret <;> exact ⟨rfl, rfl⟩
def Ms (W : World) (q : Nat) (k ki : Int) (s : ByteArray) (a b : Option Addr) (ca cb : Nat) (D1 D2 : Bool) (w : World) : Prop :=
 w.heap[q]? = some (.cells #[.int .i64 k, .int .i64 ki, .string s, .slice a 0 (if D1 then 0 else ca), .slice b 0 (if D2 then 0 else cb)] 28 (0, 0)) ∧ Ob W w q
section
variable {W w : World} {q : Nat} {k ki : Int} {s : ByteArray} {a b : Option Addr} {ca cb : Nat} {D : Nat → Bool} {D1 D2 : Bool}
theorem ms_ne {i s1 s2 : Nat} (h1 : s1 ≠ i) (h2 : s2 ≠ i) (h : Ms W q k ki s a b ca cb (D s1) (D s2) w) : Ms W q k ki s a b ca cb (add1 D i s1) (add1 D i s2) w := by
 rw [add1_ne h1, add1_ne h2]; exact h
theorem ms_c3 (h : Ms W q k ki s a b ca cb D1 D2 w) (h1 : D1 = false) : w.cell? ⟨q, 3, none⟩ = some (.slice a 0 ca) := by
 subst h1; simp only [World.cell?, h.1]; rfl
theorem ms_c4 (h : Ms W q k ki s a b ca cb D1 D2 w) (h1 : D2 = false) : w.cell? ⟨q, 4, none⟩ = some (.slice b 0 cb) := by
 subst h1; simp only [World.cell?, h.1]; rfl
theorem ms_7 (h : Ms W q k ki s a b ca cb (D 7) (D 9) w) (h1 : D 7 = false) :
  (Instr.storeAt 25 (.pointer (some ⟨q, 3, none⟩)) (.slice a 0 0)).run Tryz.prog w = .ok () (w.setCell ⟨q, 3, none⟩ (.slice a 0 0)) ∧ Ms W q k ki s a b ca cb (add1 D 7 7) (add1 D 7 9) (w.setCell ⟨q, 3, none⟩ (.slice a 0 0)) := by
 have hc : (w.cell? ⟨q, 3, none⟩).isSome = true := by rw [ms_c3 h h1]; rfl
 have hf : w.frozen? ⟨q, 3, none⟩ = false := by simp [World.frozen?, h.1]
 refine ⟨by simp [Instr.storeAt, Instr.sureAddr, go_sem, ms_c3 h h1, hf], ?_⟩
 rw [add1_eq, add1_ne (by decide)]
 have e := setCell_eq_setRow w q 3 _ _ (0, 0) (.slice a 0 0) h.1
 rw [e]
 exact ⟨(setRow_heap w q _ _ _ _ h.1).trans rfl, h.2.rowset⟩
theorem ms_9 (h : Ms W q k ki s a b ca cb (D 7) (D 9) w) (h1 : D 9 = false) :
  (Instr.storeAt 26 (.pointer (some ⟨q, 4, none⟩)) (.slice b 0 0)).run Tryz.prog w = .ok () (w.setCell ⟨q, 4, none⟩ (.slice b 0 0)) ∧ Ms W q k ki s a b ca cb (add1 D 9 7) (add1 D 9 9) (w.setCell ⟨q, 4, none⟩ (.slice b 0 0)) := by
 have hf : w.frozen? ⟨q, 4, none⟩ = false := by simp [World.frozen?, h.1]
 refine ⟨by simp [Instr.storeAt, Instr.sureAddr, go_sem, ms_c4 h h1, hf], ?_⟩
 rw [add1_eq, add1_ne (by decide)]
 have e := setCell_eq_setRow w q 4 _ _ (0, 0) (.slice b 0 0) h.1
 rw [e]
 exact ⟨(setRow_heap w q _ _ _ _ h.1).trans rfl, h.2.rowset⟩
theorem ms_11 (h1 : D1 = true) (h2 : D2 = true) (h : Ms W q k ki s a b ca cb D1 D2 w) : w.heap[q]? = some (.cells #[.int .i64 k, .int .i64 ki, .string s, .slice a 0 0, .slice b 0 0] 28 (0, 0)) ∧ Ob W w q := by
 subst h1; subst h2; exact h
end
def S0v (q : Nat) (a b : Option Addr) (ca cb : Nat) : Nat → Value → Prop
 | 0, v => v = .pointer (some ⟨q, 3, none⟩)
 | 1, v => v = .slice a 0 ca
 | 2, v => v = .slice a 0 0
 | 3, v => v = .pointer (some ⟨q, 4, none⟩)
 | 4, v => v = .slice b 0 cb
 | 5, v => v = .slice b 0 0
 | 6, v => v = .pointer (some ⟨q, 3, none⟩)
 | 8, v => v = .pointer (some ⟨q, 4, none⟩)
 | _, _ => True
def S0d : Nat → Nat
 | 0 => 11
 | 1 => 12
 | 2 => 13
 | 3 => 14
 | 4 => 15
 | 5 => 16
 | 6 => 17
 | 7 => 1007
 | 8 => 18
 | 9 => 1009
 | i => 2000 + i

set_option maxHeartbeats 4000000 in
set_option maxRecDepth 100000 in
theorem sorted_0 {w : World} {k ki : Int} {s : List UInt8} {a b : Option Addr} {ca cb : Nat} : Calls Tryz.prog 41 #[.agg #[.int .i64 k, .int .i64 ki, .string (st s), .slice a 0 ca, .slice b 0 cb], .int .i64 0] w (AnC w (.mk k ki s [] [])) := by
 obtain ⟨W, hW⟩ : ∃ W, W = (w.alloc (.cells #[.int .i64 k, .int .i64 ki, .string (st s), .slice a 0 ca, .slice b 0 cb] 28)).alloc (.cells #[.int .i64 0, .int .i64 0, .string ⟨#[]⟩, .slice none 0 0, .slice none 0 0] 28) := ⟨_, rfl⟩
 obtain ⟨q, hq⟩ : ∃ q, q = w.heap.size := ⟨_, rfl⟩
 have hb : Hid (Below w.heap.size w W) := hide1 (by rw [hW]; exact blw_al ((Below.refl _ _).alloc (Nat.le_refl _) _) (by simp) _)
 have hr2 : W.heap[q]? = some (.cells #[.int .i64 k, .int .i64 ki, .string (st s), .slice a 0 ca, .slice b 0 cb] 28 (0, 0)) := by
  rw [hW, hq]
  show ((w.heap.push _).push _)[w.heap.size]? = _
  rw [Array.getElem?_push, if_neg (by simp), Array.getElem?_push, if_pos rfl]
 have hr4 : W.heap[q + 1]? = some (.cells #[.int .i64 0, .int .i64 0, .string ⟨#[]⟩, .slice none 0 0, .slice none 0 0] 28 (0, 0)) := by
  rw [hW, hq]
  show ((w.heap.push _).push _)[w.heap.size + 1]? = _
  rw [Array.getElem?_push, if_pos (by simp)]
 have hM0 : Ms W q k ki (st s) a b ca cb false false W.drew := ⟨hr2, ⟨rfl, rfl, rfl, rfl, fun _ _ => rfl⟩⟩
 replace hr2 := hide1 hr2
 replace hr4 := hide1 hr4
 replace hM0 := hide1 hM0
 go_enter Tryz.func41, Tryz.ntmps41
 go_upto_region 2 with fail
 rw [← hW, ← hq]
 replace hM0 := hM0.out
 clear hW
 refine wp_rel5 _ _ (fun _ j v _ => S0v q a b ca cb j v) (fun D w => Ms W q k ki (st s) a b ca cb (D 7) (D 9) w) S0d (by kernel_rfl) (by kernel_rfl) 10 (by kernel_rfl) ?_ ?_ rfl hM0 ?_ ?_
 ·intro ix o ho
  match ix, ho with
  | 0, ho => obtain rfl := Option.some.inj ho; exact .inl ⟨rfl, by show 11 < 68; decide⟩
  | 1, ho => obtain rfl := Option.some.inj ho; exact .inl ⟨rfl, by show 12 < 68; decide⟩
  | 2, ho => obtain rfl := Option.some.inj ho; exact .inl ⟨rfl, by show 13 < 68; decide⟩
  | 3, ho => obtain rfl := Option.some.inj ho; exact .inl ⟨rfl, by show 14 < 68; decide⟩
  | 4, ho => obtain rfl := Option.some.inj ho; exact .inl ⟨rfl, by show 15 < 68; decide⟩
  | 5, ho => obtain rfl := Option.some.inj ho; exact .inl ⟨rfl, by show 16 < 68; decide⟩
  | 6, ho => obtain rfl := Option.some.inj ho; exact .inl ⟨rfl, by show 17 < 68; decide⟩
  | 7, ho => obtain rfl := Option.some.inj ho; exact .inr ⟨⟨rfl, fun _ _ _ _ => trivial⟩, by show 68 ≤ 1007; decide⟩
  | 8, ho => obtain rfl := Option.some.inj ho; exact .inl ⟨rfl, by show 18 < 68; decide⟩
  | 9, ho => obtain rfl := Option.some.inj ho; exact .inr ⟨⟨rfl, fun _ _ _ _ => trivial⟩, by show 68 ≤ 1009; decide⟩
  | _ + 10, ho => exact absurd ho (by simp)
 ·intro ix jx hi hj e; unfold S0d at e; split at e <;> split at e <;> omega
 ·intro ix o ho
  match ix, ho with
  | 0, ho =>
   obtain rfl := Option.some.inj ho
   intro D a1 w hM hsl hdep hDi hcl K hK
   have hp2 : a1.tmps.getD 2 undef = .pointer (some ⟨q, 0, none⟩) := hsl 2 (by intro j hj; unfold S0d; split <;> omega)
   refine ⟨rfl, ?_⟩
   refine wp_val (w' := w) (v := .pointer (some ⟨q, 3, none⟩)) (by simp only [execOp, Act.eval]; rw [show a1.tmps.getD 2 undef = _ from hp2]; kernel_rfl) ?_
   exact hK _ _ rfl (ms_ne (by decide) (by decide) hM) (fun _ _ _ _ h => h)
  | 1, ho =>
   obtain rfl := Option.some.inj ho
   intro D a1 w hM hsl hdep hDi hcl K hK
   have e0 := (hdep ⟨0, .data⟩ (by simp) rfl).1
   have hD : D 7 = false := by cases h9 : D 7 with | false => rfl | true => have := hcl 7 _ rfl h9 ⟨1, .phase⟩ (by simp) rfl; rw [this] at hDi; cases hDi
   have hl := ms_c3 hM hD
   refine ⟨rfl, ?_⟩
   refine wp_val (w' := w) (v := .slice a 0 ca) (by simp only [execOp, Act.eval]; rw [show a1.tmps.getD 11 undef = _ from e0]; simp only [Sem.run_bind, ld_sV hl, Result.andThen_ok, Sem.run_pure]) ?_
   exact hK _ _ rfl (ms_ne (by decide) (by decide) hM) (fun _ _ _ _ h => h)
  | 2, ho =>
   obtain rfl := Option.some.inj ho
   intro D a1 w hM hsl hdep hDi hcl K hK
   have e1 := (hdep ⟨1, .data⟩ (by simp) rfl).1
   refine ⟨rfl, ?_⟩
   refine oper_any (J := fun r w' => r = .slice a 0 0 ∧ w' = w) 68 #[.tmp 12] _ rfl #[.slice a 0 ca] (by simp only [List.map_toArray, List.map_cons, List.map_nil, Act.eval]; rw [show a1.tmps.getD 12 undef = _ from e1]) (fun w => by kernel_rfl) (clip_V.mono fun e w' h => ⟨_, h.1, rfl, h.2⟩) ?_
   rintro r w' ⟨rfl, rfl⟩
   exact hK _ _ rfl (ms_ne (by decide) (by decide) hM) (fun _ _ _ _ h => h)
  | 3, ho =>
   obtain rfl := Option.some.inj ho
   intro D a1 w hM hsl hdep hDi hcl K hK
   have hp2 : a1.tmps.getD 2 undef = .pointer (some ⟨q, 0, none⟩) := hsl 2 (by intro j hj; unfold S0d; split <;> omega)
   refine ⟨rfl, ?_⟩
   refine wp_val (w' := w) (v := .pointer (some ⟨q, 4, none⟩)) (by simp only [execOp, Act.eval]; rw [show a1.tmps.getD 2 undef = _ from hp2]; kernel_rfl) ?_
   exact hK _ _ rfl (ms_ne (by decide) (by decide) hM) (fun _ _ _ _ h => h)
  | 4, ho =>
   obtain rfl := Option.some.inj ho
   intro D a1 w hM hsl hdep hDi hcl K hK
   have e3 := (hdep ⟨3, .data⟩ (by simp) rfl).1
   have hD : D 9 = false := by cases h9 : D 9 with | false => rfl | true => have := hcl 9 _ rfl h9 ⟨4, .phase⟩ (by simp) rfl; rw [this] at hDi; cases hDi
   have hl := ms_c4 hM hD
   refine ⟨rfl, ?_⟩
   refine wp_val (w' := w) (v := .slice b 0 cb) (by simp only [execOp, Act.eval]; rw [show a1.tmps.getD 14 undef = _ from e3]; simp only [Sem.run_bind, ld_sP hl, Result.andThen_ok, Sem.run_pure]) ?_
   exact hK _ _ rfl (ms_ne (by decide) (by decide) hM) (fun _ _ _ _ h => h)
  | 5, ho =>
   obtain rfl := Option.some.inj ho
   intro D a1 w hM hsl hdep hDi hcl K hK
   have e4 := (hdep ⟨4, .data⟩ (by simp) rfl).1
   refine ⟨rfl, ?_⟩
   refine oper_any (J := fun r w' => r = .slice b 0 0 ∧ w' = w) 69 #[.tmp 15] _ rfl #[.slice b 0 cb] (by simp only [List.map_toArray, List.map_cons, List.map_nil, Act.eval]; rw [show a1.tmps.getD 15 undef = _ from e4]) (fun w => by kernel_rfl) (clip_P.mono fun e w' h => ⟨_, h.1, rfl, h.2⟩) ?_
   rintro r w' ⟨rfl, rfl⟩
   exact hK _ _ rfl (ms_ne (by decide) (by decide) hM) (fun _ _ _ _ h => h)
  | 6, ho =>
   obtain rfl := Option.some.inj ho
   intro D a1 w hM hsl hdep hDi hcl K hK
   have hp2 : a1.tmps.getD 2 undef = .pointer (some ⟨q, 0, none⟩) := hsl 2 (by intro j hj; unfold S0d; split <;> omega)
   refine ⟨rfl, ?_⟩
   refine wp_val (w' := w) (v := .pointer (some ⟨q, 3, none⟩)) (by simp only [execOp, Act.eval]; rw [show a1.tmps.getD 2 undef = _ from hp2]; kernel_rfl) ?_
   exact hK _ _ rfl (ms_ne (by decide) (by decide) hM) (fun _ _ _ _ h => h)
  | 7, ho =>
   obtain rfl := Option.some.inj ho
   intro D a1 w hM hsl hdep hDi hcl K hK
   have e6 := (hdep ⟨6, .data⟩ (by simp) rfl).1
   have e2 := (hdep ⟨2, .data⟩ (by simp) rfl).1
   obtain ⟨hst, hM2⟩ := ms_7 hM hDi
   refine ⟨rfl, ?_⟩
   refine wp_skp (w' := w.setCell ⟨q, 3, none⟩ (.slice a 0 0)) (by simp only [execOp, Act.eval]; rw [show a1.tmps.getD 17 undef = _ from e6, show a1.tmps.getD 13 undef = _ from e2]; simp only [Sem.run_bind, hst, Result.andThen_ok, Sem.run_pure]) ?_
   exact hK _ _ trivial hM2 (fun _ _ _ _ h => h)
  | 8, ho =>
   obtain rfl := Option.some.inj ho
   intro D a1 w hM hsl hdep hDi hcl K hK
   have hp2 : a1.tmps.getD 2 undef = .pointer (some ⟨q, 0, none⟩) := hsl 2 (by intro j hj; unfold S0d; split <;> omega)
   refine ⟨rfl, ?_⟩
   refine wp_val (w' := w) (v := .pointer (some ⟨q, 4, none⟩)) (by simp only [execOp, Act.eval]; rw [show a1.tmps.getD 2 undef = _ from hp2]; kernel_rfl) ?_
   exact hK _ _ rfl (ms_ne (by decide) (by decide) hM) (fun _ _ _ _ h => h)
  | 9, ho =>
   obtain rfl := Option.some.inj ho
   intro D a1 w hM hsl hdep hDi hcl K hK
   have e8 := (hdep ⟨8, .data⟩ (by simp) rfl).1
   have e5 := (hdep ⟨5, .data⟩ (by simp) rfl).1
   obtain ⟨hst, hM2⟩ := ms_9 hM hDi
   refine ⟨rfl, ?_⟩
   refine wp_skp (w' := w.setCell ⟨q, 4, none⟩ (.slice b 0 0)) (by simp only [execOp, Act.eval]; rw [show a1.tmps.getD 18 undef = _ from e8, show a1.tmps.getD 16 undef = _ from e5]; simp only [Sem.run_bind, hst, Result.andThen_ok, Sem.run_pure]) ?_
   exact hK _ _ trivial hM2 (fun _ _ _ _ h => h)
  | _ + 10, ho => exact absurd ho (by simp)
 ·intro D a1 wt hall hd hs hM hsl hr hact
  replace hM := ms_11 (hall 7 (by decide)) (hall 9 (by decide)) hM
  simp only [List.filterMap_cons, List.filterMap_nil, List.foldl_cons, List.foldl_nil] at hact
  rw [hact]
  generalize a1.tmps.getD 11 undef = y11
  generalize a1.tmps.getD 12 undef = y12
  generalize a1.tmps.getD 13 undef = y13
  generalize a1.tmps.getD 14 undef = y14
  generalize a1.tmps.getD 15 undef = y15
  generalize a1.tmps.getD 16 undef = y16
  generalize a1.tmps.getD 17 undef = y17
  generalize a1.tmps.getD 18 undef = y18
  clear hact hsl hr hd hs hall a1
  simp only [Act.put, List.setIfInBounds_toArray, List.set_cons_succ, List.set_cons_zero]
  obtain ⟨hM1, hM2⟩ := hM
  have l0 : wt.cell? ⟨q, 0, none⟩ = some (.int .i64 k) := by simp only [World.cell?, hM1]; rfl
  have l1 : wt.cell? ⟨q, 1, none⟩ = some (.int .i64 ki) := by simp only [World.cell?, hM1]; rfl
  have l2 : wt.cell? ⟨q, 2, none⟩ = some (.string (st s)) := by simp only [World.cell?, hM1]; rfl
  have l3 : wt.cell? ⟨q, 3, none⟩ = some (.slice a 0 0) := by simp only [World.cell?, hM1]; rfl
  have l4 : wt.cell? ⟨q, 4, none⟩ = some (.slice b 0 0) := by simp only [World.cell?, hM1]; rfl
  have hl5 : wt.rangeAt q 0 [.int .i64 k, .int .i64 ki, .string (st s), .slice a 0 0, .slice b 0 0] := fun j z hj => by
   simp only [World.cell?, hM1]
   rw [Nat.zero_add]
   simpa using hj
  have hr5 := (hM2.block (q + 1) (by omega)).trans hr4.out
  have hz := setRow_heap wt (q + 1) _ #[.int .i64 k, .int .i64 ki, .string (st s), .slice a 0 0, .slice b 0 0] _ _ hr5
  have ha : Hid (AnC w (.mk k ki s [] []) (.returned (.agg #[.int .i64 k, .int .i64 ki, .string (st s), .slice a 0 0, .slice b 0 0])) (wt.setRow (q + 1) #[.int .i64 k, .int .i64 ki, .string (st s), .slice a 0 0, .slice b 0 0])) := hide1 ⟨_, rfl, rfl, blw_own ⟨hM2.os.trans hb.out.os, hM2.tape.trans hb.out.tape, hM2.output.trans hb.out.output, by rw [hM2.size]; exact hb.out.size, fun k hk => (hM2.block k (by omega)).trans (hb.out.block k hk)⟩ (by omega) _, .mk ⟨by simp, .inl ⟨a, 0, rfl, rfl⟩⟩ ⟨by simp, .inl ⟨b, 0, rfl, rfl⟩⟩ rfl rfl (by simp) (by simp) (by simp)⟩
  replace hz := hide1 hz
  clear hM1 hM2 hr2 hr4 hb hM0
  go_wp2_with (first | refine wpList_load_mid rfl 28 (.tmp 2) rfl q 0 rfl [.int .i64 k, .int .i64 ki, .string (st s), .slice a 0 0, .slice b 0 0] _ hl5 Tryz.underlying28 rfl (by kernel_rfl) ?_ | refine wpList_store_row rfl Vt (.tmp 4) (.tmp 19) rfl (q + 1) #[.int .i64 k, .int .i64 ki, .string (st s), .slice a 0 0, .slice b 0 0] rfl rfl Vt _ hr5 (by kernel_rfl) rfl (by kernel_rfl) ?_)
  refine bodyPost_ret (results_v1 rfl _ rfl rfl hz.out) rfl ?_
  exact ha.out
theorem sorted_d : ∀ (d : Nat), d ≤ 8 → ∀ {h : Nat} {F : Nat → Prop} {w : World} {t : T} {c : List Value}, hgt h t → gd d t = true → VA F w t c → Calls Tryz.prog 41 #[.agg c.toArray, .int .i64 (d : Nat)] w (AnC w (so d t))
 | 0, _, h, F, w, t, c, _, hg, hv => by
  cases hv with
  | @mk k ki s l p sl sp cl cp r1 r2 e1 e2 hl hp1 hp2 =>
   obtain ⟨g1, g2, _⟩ := gd_list hg
   obtain rfl : l = [] := by rcases g1 with h | ⟨m, h, _⟩; exact h; omega
   obtain rfl : p = [] := by rcases g2 with h | ⟨m, h, _⟩; exact h; omega
   obtain rfl : cl = [] := List.length_eq_zero_iff.1 e1
   obtain rfl : cp = [] := List.length_eq_zero_iff.1 e2
   obtain ⟨a, ca, rfl⟩ := r1.slc
   obtain ⟨b, cb, rfl⟩ := r2.slc
   exact sorted_0
 | d + 1, hd, h, F, w, t, c, hh, hg, hv => by
  refine sorted_s (Q := fun t => (∃ h, hgt h t) ∧ gd d t = true) (d := d + 1) (fun ht hv => ?_) ?_ (by omega) (by omega) hv
  ·obtain ⟨⟨h', h1⟩, h2⟩ := ht
   exact sorted_d d (by omega) h1 h2 hv
  ·obtain ⟨k, ki, s, l, p⟩ := t
   cases h with
   | zero => exact hh.elim
   | succ h =>
    obtain ⟨b1, b2, h1, h2⟩ := hh
    obtain ⟨g1, g2, _⟩ := gd_list hg
    refine ⟨b1, b2, fun t ht => ⟨⟨h, h1 t ht⟩, ?_⟩, fun q hq => ⟨⟨h, h2 q hq⟩, ?_⟩⟩
    ·rcases g1 with e | ⟨m, e, g⟩
     ·rw [e] at ht; simp at ht
     ·obtain rfl : m = d := by omega
      exact g t ht
    ·rcases g2 with e | ⟨m, e, g⟩
     ·rw [e] at hq; simp at hq
     ·obtain rfl : m = d := by omega
      exact g q hq
end Go.Proofs.YtbemaloaobeblaaGreatDoor

namespace Go.Proofs.YtbemaloaobeblaaGreatDoor
open Go.RowKit Go.Shelf

def AnK (q : Nat) (ov : Value) (z : List UInt8) (w : World) (e : Ending) (w' : World) : Prop := e = .returned (.tuple #[]) ∧ ∃ ov', Wt w' q ov' z ∧ Wk q ov ov' w w'
theorem sign_91 {w : World} {q : Nat} {ov : Value} {z : List UInt8} (h : Wt w q ov z) : Calls Tryz.prog 98 #[.pointer (some ⟨q, 0, none⟩), .int .i32 91] w (AnK q ov (z ++ [91]) w) := by
 have ha := add_d (s := [91]) h
 clear h
 go_enter Tryz.func98, Tryz.ntmps98
 go_wp2_with fail
 refine ha.mono ?_
 rintro e w1 ⟨rfl, ov', h1, h2⟩
 go_wp2
 go_end0
 exact ⟨rfl, ov', h1, h2⟩
theorem sign_93 {w : World} {q : Nat} {ov : Value} {z : List UInt8} (h : Wt w q ov z) : Calls Tryz.prog 98 #[.pointer (some ⟨q, 0, none⟩), .int .i32 93] w (AnK q ov (z ++ [93]) w) := by
 have ha := add_d (s := [93]) h
 clear h
 go_enter Tryz.func98, Tryz.ntmps98
 go_wp2_with fail
 refine ha.mono ?_
 rintro e w1 ⟨rfl, ov', h1, h2⟩
 go_wp2
 go_end0
 exact ⟨rfl, ov', h1, h2⟩
theorem sign_123 {w : World} {q : Nat} {ov : Value} {z : List UInt8} (h : Wt w q ov z) : Calls Tryz.prog 98 #[.pointer (some ⟨q, 0, none⟩), .int .i32 123] w (AnK q ov (z ++ [123]) w) := by
 have ha := add_d (s := [123]) h
 clear h
 go_enter Tryz.func98, Tryz.ntmps98
 go_wp2_with fail
 refine ha.mono ?_
 rintro e w1 ⟨rfl, ov', h1, h2⟩
 go_wp2
 go_end0
 exact ⟨rfl, ov', h1, h2⟩
theorem sign_125 {w : World} {q : Nat} {ov : Value} {z : List UInt8} (h : Wt w q ov z) : Calls Tryz.prog 98 #[.pointer (some ⟨q, 0, none⟩), .int .i32 125] w (AnK q ov (z ++ [125]) w) := by
 have ha := add_d (s := [125]) h
 clear h
 go_enter Tryz.func98, Tryz.ntmps98
 go_wp2_with fail
 refine ha.mono ?_
 rintro e w1 ⟨rfl, ov', h1, h2⟩
 go_wp2
 go_end0
 exact ⟨rfl, ov', h1, h2⟩
theorem sign_44 {w : World} {q : Nat} {ov : Value} {z : List UInt8} (h : Wt w q ov z) : Calls Tryz.prog 98 #[.pointer (some ⟨q, 0, none⟩), .int .i32 44] w (AnK q ov (z ++ [44]) w) := by
 have ha := add_d (s := [44]) h
 clear h
 go_enter Tryz.func98, Tryz.ntmps98
 go_wp2_with fail
 refine ha.mono ?_
 rintro e w1 ⟨rfl, ov', h1, h2⟩
 go_wp2
 go_end0
 exact ⟨rfl, ov', h1, h2⟩
theorem sign_58 {w : World} {q : Nat} {ov : Value} {z : List UInt8} (h : Wt w q ov z) : Calls Tryz.prog 98 #[.pointer (some ⟨q, 0, none⟩), .int .i32 58] w (AnK q ov (z ++ [58]) w) := by
 have ha := add_d (s := [58]) h
 clear h
 go_enter Tryz.func98, Tryz.ntmps98
 go_wp2_with fail
 refine ha.mono ?_
 rintro e w1 ⟨rfl, ov', h1, h2⟩
 go_wp2
 go_end0
 exact ⟨rfl, ov', h1, h2⟩
set_option maxRecDepth 100000 in
theorem quoted_w {w : World} {q : Nat} {ov : Value} {z s : List UInt8} (h : Wt w q ov z) : Calls Tryz.prog 61 #[.pointer (some ⟨q, 0, none⟩), .string (st s)] w (AnK q ov (z ++ qu s) w) := by
 have hsz : Hid ((st s).size = s.length) := hide1 (st_size s)
 by_cases hs : 4096 < s.length
 ·have ht : (4096 : Int) < ((st s).size : Int) := by rw [hsz.out]; omega
  obtain ⟨hbx, out, hown, hl, hz⟩ := h
  have c1 : w.cell? ⟨q, 1, none⟩ = some (.bool (decide (4096 < z.length))) := by simp only [World.cell?, hbx]; rfl
  have f1 : w.frozen? ⟨q, 1, none⟩ = false := by simp [World.frozen?, hbx]
  have e1 : w.setCell ⟨q, 1, none⟩ (.bool true) = w.setRow q #[ov, .bool true] := by rw [sw_row hbx]; rfl
  have hn := setRow_heap w q _ #[ov, .bool true] _ _ hbx
  have hf : Hid (Wt (w.setCell ⟨q, 1, none⟩ (.bool true)) q ov (z ++ qu s) ∧ Wk q ov ov w (w.setCell ⟨q, 1, none⟩ (.bool true))) := hide1 (by
   have hq := (qb_len s).1
   have hzs : 4096 < (z ++ qu s).length := by rw [List.length_append]; simp [qu]; omega
   rw [e1]
   exact ⟨⟨by rw [decide_eq_true hzs]; exact hn, out, hown.row _, hl, .inl hzs⟩, Wk.row _ _ _ fun _ h => .inl h⟩)
  clear hown hz hbx e1 hn
  go_enter Tryz.func61, Tryz.ntmps61
  go_wp2
  first
  | (go_end0; exact ⟨rfl, ov, hf.out⟩)
  | (refine bodyPost_ret (results_none rfl _ _ _) rfl ?_; exact ⟨rfl, ov, hf.out⟩)
 ·have ht : ¬ (4096 : Int) < ((st s).size : Int) := by rw [hsz.out]; omega
  have hq := quote_d (w := w) (s := s) (by omega)
  go_enter Tryz.func61, Tryz.ntmps61
  go_wp2_with fail
  refine hq.mono ?_
  rintro e w1 ⟨rfl, b1⟩
  have ha := add_d (s := qu s) (h.below b1)
  have hk := hide1 (Wk.ofB (q := q) (a := ov) b1)
  clear hq b1 h
  go_wp2_with fail
  refine ha.mono ?_
  rintro e w2 ⟨rfl, ov', h1, h2⟩
  have h3 := hide1 (hk.out.trans h2)
  replace h1 := hide1 h1
  clear ha hk h2
  go_wp2
  go_end0
  exact ⟨rfl, ov', h1.out, h3.out⟩
theorem Wt.fresh {w : World} {q : Nat} {ov : Value} {z : List UInt8} (h : Wt w q ov z) : w.heap.size ≠ q ∧ ov.ownBlock ≠ some w.heap.size := by
 obtain ⟨h1, out, ⟨_, ⟨rfl, _⟩ | ⟨g, cap, cur, rfl, hB, hg, _⟩⟩, _⟩ := h
 ·exact ⟨by have := (Array.getElem?_eq_some_iff.1 h1).1; omega, fun e => by cases e⟩
 ·exact ⟨by have := (Array.getElem?_eq_some_iff.1 h1).1; omega, fun e => by
   have e2 : g = w.heap.size := by simpa [Value.ownBlock] using e
   have h3 := (Array.getElem?_eq_some_iff.1 hg).1
   omega⟩
def Fr (F : Nat → Prop) (w : World) (q : Nat) (ov : Value) : Prop := ∀ k, F k → k < w.heap.size → k ≠ q ∧ ov.ownBlock ≠ some k
theorem RwA.wk {F : Nat → Prop} {w w' : World} {e : TypeId} {z q : Nat} {v ov ov' : Value} {cs : List (List Value)} (h : RwA F w e z v cs) (hF : Fr F w q ov) (hk : Wk q ov ov' w w') : RwA (fun k => F k ∧ k < w.heap.size) w' e z v cs :=
 h.frame (fun k hf hs => hk.block k hs (hF k hf hs).1 (hF k hf hs).2) (fun _ hf hs => ⟨hf, hs⟩)
theorem VA.wk {F : Nat → Prop} {w w' : World} {q : Nat} {ov ov' : Value} {t : T} {c : List Value} (h : VA F w t c) (hF : Fr F w q ov) (hk : Wk q ov ov' w w') : VA (fun k => F k ∧ k < w.heap.size) w' t c :=
 h.frame (fun k hf hs => hk.block k hs (hF k hf hs).1 (hF k hf hs).2) (fun _ hf hs => ⟨hf, hs⟩)
theorem Fr.wk {F : Nat → Prop} {w w' : World} {q : Nat} {ov ov' : Value} (hF : Fr F w q ov) (hk : Wk q ov ov' w w') : Fr (fun k => F k ∧ k < w.heap.size) w' q ov' := fun k hf _ =>
 ⟨(hF k hf.1 hf.2).1, fun e => (hk.own k e).elim (hF k hf.1 hf.2).2 fun h => by have := hf.2; omega⟩
set_option maxHeartbeats 4000000 in
set_option maxRecDepth 100000 in
theorem rowV_d {F : Nat → Prop} {w : World} {q : Nat} {ov v : Value} {zt : List UInt8} {l : List (T)} {cs : List (List Value)} {f : T → List UInt8} (r : RwA F w 28 5 v cs) (hl : cs.length = l.length) (hon : ∀ c ∈ cs, c.all (·.oneCell') = true) (hb : cs.length ≤ 1000000) (hF : Fr F w q ov) (hW : Wt w q ov zt)
  (hone : ∀ (j : Nat) (t : T) (c : List Value), l[j]? = some t → cs[j]? = some c → ∀ (w' : World) (ov' : Value) (z' : List UInt8), Wk q ov ov' w w' → Wt w' q ov' z' → Calls Tryz.prog 37 #[.pointer (some ⟨q, 0, none⟩), .agg c.toArray] w' (AnK q ov' (z' ++ f t) w')) :
  Calls Tryz.prog 62 #[.pointer (some ⟨q, 0, none⟩), .int .i32 91, .int .i32 93, v, .func (.func 37) #[.pointer (some ⟨q, 0, none⟩)] #[]] w (AnK q ov (zt ++ 91 :: (cj (l.map f) ++ [93])) w) := by
 obtain ⟨va, vc, rfl⟩ := r.slc
 have hs0 := sign_91 hW
 replace hone := hide1 hone
 replace hW := hide1 hW
 replace hF := hide1 hF
 replace r := hide1 r
 replace hon := hide1 hon
 replace hl := hide1 hl
 go_enter Tryz.func62, Tryz.ntmps62
 go_wp2_with fail
 refine hs0.mono ?_
 rintro e w1 ⟨rfl, ov1, h1, k1⟩
 have h2 : Hid (Wt w1 q ov1 (zt ++ 91 :: cj ((l.take 0).map f))) := hide1 h1
 replace k1 := hide1 k1
 clear hs0 h1
 go_wp2_with fail
 go_loopw [17] (fun s17 wr => ∃ (i : Nat) (ov' : Value), s17 = .int .i64 (i : Nat) ∧ i ≤ cs.length ∧ Hid (Wt wr q ov' (zt ++ 91 :: cj ((l.take i).map f))) ∧ Hid (Wk q ov ov' w wr)) (fun s17 _ => cs.length - (intOf s17).toNat)
 case atStart => exact ⟨0, ov1, rfl, Nat.zero_le _, h2, k1⟩
 case round =>
  obtain ⟨i, ov', rfl, hi, hWr, hKr⟩ := hrel
  by_cases hlt : i < cs.length
  ·obtain ⟨t, ht⟩ : ∃ t, l[i]? = some t := ⟨_, List.getElem?_eq_getElem (by have := hl.out; omega)⟩
   obtain ⟨c, hc⟩ : ∃ c, cs[i]? = some c := ⟨_, List.getElem?_eq_getElem hlt⟩
   have rr := r.out.wk hF.out hKr.out
   obtain ⟨b, oo, cap, hve, -, hbl, hr⟩ := rr.at hc
   cases hve
   have hcz := rr.1 c (List.mem_of_getElem? hc)
   have hoc := hon.out c (List.mem_of_getElem? hc)
   obtain ⟨x0, x1, x2, x3, x4, rfl⟩ := five_l hcz
   have hcall := hone.out i t _ ht hc
   have htake : Hid ((l.take (i + 1)).map f = (l.take i).map f ++ [f t]) := hide1 (by
    rw [List.take_add_one, ht, List.map_append]; rfl)
   have hnil : Hid ((l.take i).map f = [] ↔ i = 0) := hide1 (by
    rw [List.map_eq_nil_iff, List.take_eq_nil_iff]
    constructor
    ·rintro (h | h)
     ·exact h
     ·have := hl.out; rw [h, List.length_nil] at this; omega
    ·exact fun h => .inl h)
   have hz : (wr.alloc (.cells #[.int .i64 0, .int .i64 0, .string ⟨#[]⟩, .slice none 0 0, .slice none 0 0] 28)).heap[wr.heap.size]? = some (.cells #[.int .i64 0, .int .i64 0, .string ⟨#[]⟩, .slice none 0 0, .slice none 0 0] 28 (0, 0)) := by
    show (wr.heap.push _)[wr.heap.size]? = _
    rw [Array.getElem?_push, if_pos rfl]
   have hz2 := setRow_heap (wr.alloc (.cells #[.int .i64 0, .int .i64 0, .string ⟨#[]⟩, .slice none 0 0, .slice none 0 0] 28)) wr.heap.size _ #[x0, x1, x2, x3, x4] _ _ hz
   have hbw : Below wr.heap.size wr ((wr.alloc (.cells #[.int .i64 0, .int .i64 0, .string ⟨#[]⟩, .slice none 0 0, .slice none 0 0] 28)).setRow wr.heap.size #[x0, x1, x2, x3, x4]) := blw_own ((Below.refl _ _).alloc (Nat.le_refl _) _) (Nat.le_refl _) _
   have hpw0 : wr.heap.size ≠ q ∧ ov'.ownBlock ≠ some wr.heap.size := hWr.out.fresh
   have hWa := hide1 (hWr.out.below hbw)
   have hKa := hide1 (hKr.out.below hbw)
   replace hcall := hide1 hcall
   have hoc' := hide1 hoc
   clear rr hoc hbl ht hc hcz hWr hKr hbw
   go_upto_region 4 with (first | refine wpList_load_mid rfl 28 (.tmp 20) rfl b (oo + i * 5) rfl [x0, x1, x2, x3, x4] _ hr Tryz.underlying28 rfl (by kernel_rfl) ?_ | refine wpList_store_row rfl 28 (.tmp 11) (.tmp 21) rfl wr.heap.size #[x0, x1, x2, x3, x4] rfl rfl 28 _ hz (by kernel_rfl) rfl (by simpa using hoc'.out) ?_)
   have hpw : Hid (wr.heap.size ≠ q ∧ ov'.ownBlock ≠ some wr.heap.size) := hide1 hpw0
   clear hz hoc'
   generalize (wr.alloc (.cells #[.int .i64 0, .int .i64 0, .string ⟨#[]⟩, .slice none 0 0, .slice none 0 0] 28)).setRow wr.heap.size #[x0, x1, x2, x3, x4] = wa at *
   generalize wr.heap.size = p at *
   by_cases hi0 : i = 0
   ·have ezz : Hid (zt ++ 91 :: cj ((l.take i).map f) ++ f t = zt ++ 91 :: cj ((l.take (i + 1)).map f)) := hide1 (by
     have e1 : (l.take i).map f = [] := hnil.out.2 hi0
     rw [htake.out, cj_snoc, if_pos e1, e1]; simp [cj])
    have hig : ¬ (0 : Int) < (i : Int) := by omega
    have hl5 : wa.rangeAt p 0 [x0, x1, x2, x3, x4] := fun j u hj => by
     simp only [World.cell?, hz2]
     rw [Nat.zero_add]
     simpa using hj
    have hcc := hcall.out wa ov' _ hKa.out hWa.out
    have hz3 := hide1 hz2
    clear htake hnil hz2 hcall hi0
    go_wp2_with (first | refine wpList_load_mid rfl 28 (.tmp 11) rfl p 0 rfl [x0, x1, x2, x3, x4] _ hl5 Tryz.underlying28 rfl (by kernel_rfl) ?_ | fail)
    refine hcc.mono ?_
    rintro e w6 ⟨rfl, ov6, h6, k6⟩
    rw [ezz.out] at h6
    have hK6 := hide1 (hKa.out.trans k6)
    replace h6 := hide1 h6
    clear hcc k6 hKa hWa ezz hl5
    go_wp2
    go_roundw
    case rel => exact ⟨i + 1, ov6, by first | rfl | (congr 1; omega) | go_num, hlt, h6, hK6⟩
    case measure => simp [intOf]; omega
   ·have ezz : Hid (zt ++ 91 :: cj ((l.take i).map f) ++ [44] ++ f t = zt ++ 91 :: cj ((l.take (i + 1)).map f)) := hide1 (by
     have e1 : ¬ (l.take i).map f = [] := fun e => hi0 (hnil.out.1 e)
     rw [htake.out, cj_snoc, if_neg e1]; simp)
    have hig : (0 : Int) < (i : Int) := by omega
    have hsg := sign_44 hWa.out
    have hz3 := hide1 hz2
    clear htake hnil hz2 hi0
    go_wp2_with fail
    refine hsg.mono ?_
    rintro e w5 ⟨rfl, ov5, h5, k5⟩
    have hbx5 := (k5.block p (Array.getElem?_eq_some_iff.1 hz3.out).1 hpw.out.1 hpw.out.2).trans hz3.out
    have hl5 : w5.rangeAt p 0 [x0, x1, x2, x3, x4] := fun j u hj => by
     simp only [World.cell?, hbx5]
     rw [Nat.zero_add]
     simpa using hj
    have hK5 := hide1 (hKa.out.trans k5)
    have hcc := hcall.out w5 ov5 _ hK5.out h5
    clear hsg k5 h5 hbx5 hKa hWa
    go_wp2_with (first | refine wpList_load_mid rfl 28 (.tmp 11) rfl p 0 rfl [x0, x1, x2, x3, x4] _ hl5 Tryz.underlying28 rfl (by kernel_rfl) ?_ | fail)
    refine hcc.mono ?_
    rintro e w6 ⟨rfl, ov6, h6, k6⟩
    rw [ezz.out] at h6
    have hK6 := hide1 (hK5.out.trans k6)
    replace h6 := hide1 h6
    clear hcc k6 hK5 ezz hl5
    go_wp2
    go_roundw
    case rel => exact ⟨i + 1, ov6, by first | rfl | (congr 1; omega) | go_num, hlt, h6, hK6⟩
    case measure => simp [intOf]; omega
  ·have hie : i = cs.length := by omega
   subst hie
   have hs1 := sign_93 hWr.out
   have ezz : Hid (zt ++ 91 :: cj ((l.take cs.length).map f) ++ [93] = zt ++ 91 :: (cj (l.map f) ++ [93])) := hide1 (by rw [hl.out, List.take_length]; simp)
   clear hlt
   go_wp2_with fail
   refine hs1.mono ?_
   rintro e w6 ⟨rfl, ov6, h6, k6⟩
   rw [ezz.out] at h6
   have hK6 := hide1 (hKr.out.trans k6)
   replace h6 := hide1 h6
   clear hs1 k6 ezz hKr hWr
   go_wp2
   go_end0
   exact ⟨rfl, ov6, h6.out, hK6.out⟩
set_option maxHeartbeats 4000000 in
set_option maxRecDepth 100000 in
theorem rowP_d {F : Nat → Prop} {w : World} {q : Nat} {ov v : Value} {zt : List UInt8} {l : List (List UInt8 × T)} {cs : List (List Value)} {f : List UInt8 × T → List UInt8} (r : RwA F w 49 6 v cs) (hl : cs.length = l.length) (hon : ∀ c ∈ cs, c.all (·.oneCell') = true) (hb : cs.length ≤ 1000000) (hF : Fr F w q ov) (hW : Wt w q ov zt)
  (hone : ∀ (j : Nat) (t : List UInt8 × T) (c : List Value), l[j]? = some t → cs[j]? = some c → ∀ (w' : World) (ov' : Value) (z' : List UInt8), Wk q ov ov' w w' → Wt w' q ov' z' → Calls Tryz.prog 64 #[.pointer (some ⟨q, 0, none⟩), .agg c.toArray] w' (AnK q ov' (z' ++ f t) w')) :
  Calls Tryz.prog 63 #[.pointer (some ⟨q, 0, none⟩), .int .i32 123, .int .i32 125, v, .func (.func 64) #[.pointer (some ⟨q, 0, none⟩)] #[]] w (AnK q ov (zt ++ 123 :: (cj (l.map f) ++ [125])) w) := by
 obtain ⟨va, vc, rfl⟩ := r.slc
 have hs0 := sign_123 hW
 replace hone := hide1 hone
 replace hW := hide1 hW
 replace hF := hide1 hF
 replace r := hide1 r
 replace hon := hide1 hon
 replace hl := hide1 hl
 go_enter Tryz.func63, Tryz.ntmps63
 go_wp2_with fail
 refine hs0.mono ?_
 rintro e w1 ⟨rfl, ov1, h1, k1⟩
 have h2 : Hid (Wt w1 q ov1 (zt ++ 123 :: cj ((l.take 0).map f))) := hide1 h1
 replace k1 := hide1 k1
 clear hs0 h1
 go_wp2_with fail
 go_loopw [17] (fun s17 wr => ∃ (i : Nat) (ov' : Value), s17 = .int .i64 (i : Nat) ∧ i ≤ cs.length ∧ Hid (Wt wr q ov' (zt ++ 123 :: cj ((l.take i).map f))) ∧ Hid (Wk q ov ov' w wr)) (fun s17 _ => cs.length - (intOf s17).toNat)
 case atStart => exact ⟨0, ov1, rfl, Nat.zero_le _, h2, k1⟩
 case round =>
  obtain ⟨i, ov', rfl, hi, hWr, hKr⟩ := hrel
  by_cases hlt : i < cs.length
  ·obtain ⟨t, ht⟩ : ∃ t, l[i]? = some t := ⟨_, List.getElem?_eq_getElem (by have := hl.out; omega)⟩
   obtain ⟨c, hc⟩ : ∃ c, cs[i]? = some c := ⟨_, List.getElem?_eq_getElem hlt⟩
   have rr := r.out.wk hF.out hKr.out
   obtain ⟨b, oo, cap, hve, -, hbl, hr⟩ := rr.at hc
   cases hve
   have hcz := rr.1 c (List.mem_of_getElem? hc)
   have hoc := hon.out c (List.mem_of_getElem? hc)
   obtain ⟨x0, x1, x2, x3, x4, x5, rfl⟩ := arr6 hcz
   have hcall := hone.out i t _ ht hc
   have htake : Hid ((l.take (i + 1)).map f = (l.take i).map f ++ [f t]) := hide1 (by
    rw [List.take_add_one, ht, List.map_append]; rfl)
   have hnil : Hid ((l.take i).map f = [] ↔ i = 0) := hide1 (by
    rw [List.map_eq_nil_iff, List.take_eq_nil_iff]
    constructor
    ·rintro (h | h)
     ·exact h
     ·have := hl.out; rw [h, List.length_nil] at this; omega
    ·exact fun h => .inl h)
   have hz : (wr.alloc (.cells #[.string ⟨#[]⟩, .int .i64 0, .int .i64 0, .string ⟨#[]⟩, .slice none 0 0, .slice none 0 0] 49)).heap[wr.heap.size]? = some (.cells #[.string ⟨#[]⟩, .int .i64 0, .int .i64 0, .string ⟨#[]⟩, .slice none 0 0, .slice none 0 0] 49 (0, 0)) := by
    show (wr.heap.push _)[wr.heap.size]? = _
    rw [Array.getElem?_push, if_pos rfl]
   have hz2 := setRow_heap (wr.alloc (.cells #[.string ⟨#[]⟩, .int .i64 0, .int .i64 0, .string ⟨#[]⟩, .slice none 0 0, .slice none 0 0] 49)) wr.heap.size _ #[x0, x1, x2, x3, x4, x5] _ _ hz
   have hbw : Below wr.heap.size wr ((wr.alloc (.cells #[.string ⟨#[]⟩, .int .i64 0, .int .i64 0, .string ⟨#[]⟩, .slice none 0 0, .slice none 0 0] 49)).setRow wr.heap.size #[x0, x1, x2, x3, x4, x5]) := blw_own ((Below.refl _ _).alloc (Nat.le_refl _) _) (Nat.le_refl _) _
   have hpw0 : wr.heap.size ≠ q ∧ ov'.ownBlock ≠ some wr.heap.size := hWr.out.fresh
   have hWa := hide1 (hWr.out.below hbw)
   have hKa := hide1 (hKr.out.below hbw)
   replace hcall := hide1 hcall
   have hoc' := hide1 hoc
   clear rr hoc hbl ht hc hcz hWr hKr hbw
   go_upto_region 4 with (first | refine wpList_load_mid rfl 49 (.tmp 20) rfl b (oo + i * 6) rfl [x0, x1, x2, x3, x4, x5] _ hr Tryz.underlying49 rfl (by kernel_rfl) ?_ | refine wpList_store_row rfl 49 (.tmp 11) (.tmp 21) rfl wr.heap.size #[x0, x1, x2, x3, x4, x5] rfl rfl 49 _ hz (by kernel_rfl) rfl (by simpa using hoc'.out) ?_)
   have hpw : Hid (wr.heap.size ≠ q ∧ ov'.ownBlock ≠ some wr.heap.size) := hide1 hpw0
   clear hz hoc'
   generalize (wr.alloc (.cells #[.string ⟨#[]⟩, .int .i64 0, .int .i64 0, .string ⟨#[]⟩, .slice none 0 0, .slice none 0 0] 49)).setRow wr.heap.size #[x0, x1, x2, x3, x4, x5] = wa at *
   generalize wr.heap.size = p at *
   by_cases hi0 : i = 0
   ·have ezz : Hid (zt ++ 123 :: cj ((l.take i).map f) ++ f t = zt ++ 123 :: cj ((l.take (i + 1)).map f)) := hide1 (by
     have e1 : (l.take i).map f = [] := hnil.out.2 hi0
     rw [htake.out, cj_snoc, if_pos e1, e1]; simp [cj])
    have hig : ¬ (0 : Int) < (i : Int) := by omega
    have hl5 : wa.rangeAt p 0 [x0, x1, x2, x3, x4, x5] := fun j u hj => by
     simp only [World.cell?, hz2]
     rw [Nat.zero_add]
     simpa using hj
    have hcc := hcall.out wa ov' _ hKa.out hWa.out
    have hz3 := hide1 hz2
    clear htake hnil hz2 hcall hi0
    go_wp2_with (first | refine wpList_load_mid rfl 49 (.tmp 11) rfl p 0 rfl [x0, x1, x2, x3, x4, x5] _ hl5 Tryz.underlying49 rfl (by kernel_rfl) ?_ | fail)
    refine hcc.mono ?_
    rintro e w6 ⟨rfl, ov6, h6, k6⟩
    rw [ezz.out] at h6
    have hK6 := hide1 (hKa.out.trans k6)
    replace h6 := hide1 h6
    clear hcc k6 hKa hWa ezz hl5
    go_wp2
    go_roundw
    case rel => exact ⟨i + 1, ov6, by first | rfl | (congr 1; omega) | go_num, hlt, h6, hK6⟩
    case measure => simp [intOf]; omega
   ·have ezz : Hid (zt ++ 123 :: cj ((l.take i).map f) ++ [44] ++ f t = zt ++ 123 :: cj ((l.take (i + 1)).map f)) := hide1 (by
     have e1 : ¬ (l.take i).map f = [] := fun e => hi0 (hnil.out.1 e)
     rw [htake.out, cj_snoc, if_neg e1]; simp)
    have hig : (0 : Int) < (i : Int) := by omega
    have hsg := sign_44 hWa.out
    have hz3 := hide1 hz2
    clear htake hnil hz2 hi0
    go_wp2_with fail
    refine hsg.mono ?_
    rintro e w5 ⟨rfl, ov5, h5, k5⟩
    have hbx5 := (k5.block p (Array.getElem?_eq_some_iff.1 hz3.out).1 hpw.out.1 hpw.out.2).trans hz3.out
    have hl5 : w5.rangeAt p 0 [x0, x1, x2, x3, x4, x5] := fun j u hj => by
     simp only [World.cell?, hbx5]
     rw [Nat.zero_add]
     simpa using hj
    have hK5 := hide1 (hKa.out.trans k5)
    have hcc := hcall.out w5 ov5 _ hK5.out h5
    clear hsg k5 h5 hbx5 hKa hWa
    go_wp2_with (first | refine wpList_load_mid rfl 49 (.tmp 11) rfl p 0 rfl [x0, x1, x2, x3, x4, x5] _ hl5 Tryz.underlying49 rfl (by kernel_rfl) ?_ | fail)
    refine hcc.mono ?_
    rintro e w6 ⟨rfl, ov6, h6, k6⟩
    rw [ezz.out] at h6
    have hK6 := hide1 (hK5.out.trans k6)
    replace h6 := hide1 h6
    clear hcc k6 hK5 ezz hl5
    go_wp2
    go_roundw
    case rel => exact ⟨i + 1, ov6, by first | rfl | (congr 1; omega) | go_num, hlt, h6, hK6⟩
    case measure => simp [intOf]; omega
  ·have hie : i = cs.length := by omega
   subst hie
   have hs1 := sign_125 hWr.out
   have ezz : Hid (zt ++ 123 :: cj ((l.take cs.length).map f) ++ [125] = zt ++ 123 :: (cj (l.map f) ++ [125])) := hide1 (by rw [hl.out, List.take_length]; simp)
   clear hlt
   go_wp2_with fail
   refine hs1.mono ?_
   rintro e w6 ⟨rfl, ov6, h6, k6⟩
   rw [ezz.out] at h6
   have hK6 := hide1 (hKr.out.trans k6)
   replace h6 := hide1 h6
   clear hs1 k6 ezz hKr hWr
   go_wp2
   go_end0
   exact ⟨rfl, ov6, h6.out, hK6.out⟩
theorem AnK.ofB {q : Nat} {ov : Value} {z : List UInt8} {w w1 w' : World} {e : Ending} (hb : Below w.heap.size w w1) (h : AnK q ov z w1 e w') : AnK q ov z w e w' := by
 obtain ⟨h1, ov', h2, h3⟩ := h
 exact ⟨h1, ov', h2, (Wk.ofB hb).trans h3⟩
set_option maxHeartbeats 1600000 in
set_option maxRecDepth 100000 in
theorem val_0 {w : World} {q : Nat} {ov sl sp : Value} {z s : List UInt8} {ki : Int}  (hW : Wt w q ov z) : Calls Tryz.prog 37 #[.pointer (some ⟨q, 0, none⟩), .agg #[.int .i64 0, .int .i64 ki, .string (st s), sl, sp]] w (AnK q ov (z ++ [110, 117, 108, 108]) w) := by
 obtain ⟨wb, hwb⟩ : ∃ wb, wb = w.alloc (.cells #[.int .i64 0, .int .i64 ki, .string (st s), sl, sp] 28) := ⟨_, rfl⟩
 have hB : Below w.heap.size w wb := by rw [hwb]; exact (Below.refl _ _).alloc (Nat.le_refl _) _
 have hn : wb.heap[w.heap.size]? = some (.cells #[.int .i64 0, .int .i64 ki, .string (st s), sl, sp] 28 (0, 0)) := by
  rw [hwb]
  show (w.heap.push _)[w.heap.size]? = _
  rw [Array.getElem?_push, if_pos rfl]
 have c0 : wb.cell? ⟨w.heap.size, 0, none⟩ = some (.int .i64 0) := by simp only [World.cell?, hn]; rfl
 have c1 : wb.cell? ⟨w.heap.size, 1, none⟩ = some (.int .i64 ki) := by simp only [World.cell?, hn]; rfl
 have c2 : wb.cell? ⟨w.heap.size, 2, none⟩ = some (.string (st s)) := by simp only [World.cell?, hn]; rfl
 have c3 : wb.cell? ⟨w.heap.size, 3, none⟩ = some sl := by simp only [World.cell?, hn]; rfl
 have c4 : wb.cell? ⟨w.heap.size, 4, none⟩ = some sp := by simp only [World.cell?, hn]; rfl
 have hWb := hW.below hB
 have ha := add_d (s := [110, 117, 108, 108]) hWb
 replace ha : Calls Tryz.prog 58 #[.pointer (some ⟨q, 0, none⟩), .string ⟨#[110, 117, 108, 108]⟩] wb _ := ha
 replace hWb := hide1 hWb
 replace hB := hide1 hB
 clear hW hn
 go_enter Tryz.func37, Tryz.ntmps37
 go_upto_region 1 with fail
 rw [← hwb]
 clear hwb
 go_wp2_with fail
 refine ha.mono ?_
 rintro e w1 ⟨rfl, ov', h1, h2⟩
 clear ha
 go_wp2
 go_end0
 exact AnK.ofB hB.out ⟨rfl, ov', h1, h2⟩
set_option maxHeartbeats 1600000 in
set_option maxRecDepth 100000 in
theorem val_1 {w : World} {q : Nat} {ov sl sp : Value} {z s : List UInt8} {ki : Int}  (hW : Wt w q ov z) : Calls Tryz.prog 37 #[.pointer (some ⟨q, 0, none⟩), .agg #[.int .i64 1, .int .i64 ki, .string (st s), sl, sp]] w (AnK q ov (z ++ Lib.formatBool (decide (ki = 1))) w) := by
 obtain ⟨wb, hwb⟩ : ∃ wb, wb = w.alloc (.cells #[.int .i64 1, .int .i64 ki, .string (st s), sl, sp] 28) := ⟨_, rfl⟩
 have hB : Below w.heap.size w wb := by rw [hwb]; exact (Below.refl _ _).alloc (Nat.le_refl _) _
 have hn : wb.heap[w.heap.size]? = some (.cells #[.int .i64 1, .int .i64 ki, .string (st s), sl, sp] 28 (0, 0)) := by
  rw [hwb]
  show (w.heap.push _)[w.heap.size]? = _
  rw [Array.getElem?_push, if_pos rfl]
 have c0 : wb.cell? ⟨w.heap.size, 0, none⟩ = some (.int .i64 1) := by simp only [World.cell?, hn]; rfl
 have c1 : wb.cell? ⟨w.heap.size, 1, none⟩ = some (.int .i64 ki) := by simp only [World.cell?, hn]; rfl
 have c2 : wb.cell? ⟨w.heap.size, 2, none⟩ = some (.string (st s)) := by simp only [World.cell?, hn]; rfl
 have c3 : wb.cell? ⟨w.heap.size, 3, none⟩ = some sl := by simp only [World.cell?, hn]; rfl
 have c4 : wb.cell? ⟨w.heap.size, 4, none⟩ = some sp := by simp only [World.cell?, hn]; rfl
 have hWb := hW.below hB
 have ha := add_d (s := Lib.formatBool (decide (ki = 1))) hWb
 have hfb := fun w => strconv_FormatBool (decide (ki = 1)) w
 have hkb : (ki == 1) = decide (ki = 1) := by by_cases h : ki = 1 <;> simp [h]
 replace ha : Calls Tryz.prog 58 #[.pointer (some ⟨q, 0, none⟩), .string ⟨(Lib.formatBool (decide (ki = 1))).toArray⟩] wb _ := ha
 generalize hdk : decide (ki = 1) = B at *
 replace hWb := hide1 hWb
 replace hB := hide1 hB
 clear hW hn
 go_enter Tryz.func37, Tryz.ntmps37
 go_upto_region 1 with fail
 rw [← hwb]
 clear hwb
 go_wp2_with fail
 refine (hfb _).mono ?_
 rintro e w0 ⟨rfl, rfl⟩
 go_wp2_with fail
 refine ha.mono ?_
 rintro e w1 ⟨rfl, ov', h1, h2⟩
 clear ha
 go_wp2
 go_end0
 exact AnK.ofB hB.out ⟨rfl, ov', h1, h2⟩
set_option maxHeartbeats 1600000 in
set_option maxRecDepth 100000 in
theorem val_2 {w : World} {q : Nat} {ov sl sp : Value} {z s : List UInt8} {ki : Int} (hr : -9223372036854775808 ≤ ki ∧ ki ≤ 9223372036854775807) (hT : Ev w) (h8 : 8 ≤ w.heap.size) (hW : Wt w q ov z) : Calls Tryz.prog 37 #[.pointer (some ⟨q, 0, none⟩), .agg #[.int .i64 2, .int .i64 ki, .string (st s), sl, sp]] w (AnK q ov (z ++ Lib.itoa ki) w) := by
 obtain ⟨wb, hwb⟩ : ∃ wb, wb = w.alloc (.cells #[.int .i64 2, .int .i64 ki, .string (st s), sl, sp] 28) := ⟨_, rfl⟩
 have hB : Below w.heap.size w wb := by rw [hwb]; exact (Below.refl _ _).alloc (Nat.le_refl _) _
 have hn : wb.heap[w.heap.size]? = some (.cells #[.int .i64 2, .int .i64 ki, .string (st s), sl, sp] 28 (0, 0)) := by
  rw [hwb]
  show (w.heap.push _)[w.heap.size]? = _
  rw [Array.getElem?_push, if_pos rfl]
 have c0 : wb.cell? ⟨w.heap.size, 0, none⟩ = some (.int .i64 2) := by simp only [World.cell?, hn]; rfl
 have c1 : wb.cell? ⟨w.heap.size, 1, none⟩ = some (.int .i64 ki) := by simp only [World.cell?, hn]; rfl
 have c2 : wb.cell? ⟨w.heap.size, 2, none⟩ = some (.string (st s)) := by simp only [World.cell?, hn]; rfl
 have c3 : wb.cell? ⟨w.heap.size, 3, none⟩ = some sl := by simp only [World.cell?, hn]; rfl
 have c4 : wb.cell? ⟨w.heap.size, 4, none⟩ = some sp := by simp only [World.cell?, hn]; rfl
 have hWb := hW.below hB
 have hi := strconv_Itoa ki (by have := hr.1; omega) (by have := hr.2; omega) wb (hT.below hB (by omega)).pw
 replace hWb := hide1 hWb
 replace hB := hide1 hB
 clear hW hn
 go_enter Tryz.func37, Tryz.ntmps37
 go_upto_region 1 with fail
 rw [← hwb]
 clear hwb
 go_wp2_with fail
 refine hi.mono ?_
 rintro e w0 ⟨rfl, nk, os, hw0⟩
 have hb0 : Below wb.heap.size wb w0 := below_grow ⟨nk, os, hw0⟩
 have ha := add_d (s := Lib.itoa ki) (hWb.out.below hb0)
 replace ha : Calls Tryz.prog 58 #[.pointer (some ⟨q, 0, none⟩), .string ⟨(Lib.itoa ki).toArray⟩] w0 _ := ha
 replace hb0 := hide1 hb0
 clear hi hw0
 go_wp2_with fail
 refine ha.mono ?_
 rintro e w1 ⟨rfl, ov', h1, h2⟩
 clear ha
 go_wp2
 go_end0
 exact AnK.ofB hB.out (AnK.ofB hb0.out ⟨rfl, ov', h1, h2⟩)
set_option maxHeartbeats 1600000 in
set_option maxRecDepth 100000 in
theorem val_3 {w : World} {q : Nat} {ov sl sp : Value} {z s : List UInt8} {ki : Int}  (hW : Wt w q ov z) : Calls Tryz.prog 37 #[.pointer (some ⟨q, 0, none⟩), .agg #[.int .i64 3, .int .i64 ki, .string (st s), sl, sp]] w (AnK q ov (z ++ qu s) w) := by
 obtain ⟨wb, hwb⟩ : ∃ wb, wb = w.alloc (.cells #[.int .i64 3, .int .i64 ki, .string (st s), sl, sp] 28) := ⟨_, rfl⟩
 have hB : Below w.heap.size w wb := by rw [hwb]; exact (Below.refl _ _).alloc (Nat.le_refl _) _
 have hn : wb.heap[w.heap.size]? = some (.cells #[.int .i64 3, .int .i64 ki, .string (st s), sl, sp] 28 (0, 0)) := by
  rw [hwb]
  show (w.heap.push _)[w.heap.size]? = _
  rw [Array.getElem?_push, if_pos rfl]
 have c0 : wb.cell? ⟨w.heap.size, 0, none⟩ = some (.int .i64 3) := by simp only [World.cell?, hn]; rfl
 have c1 : wb.cell? ⟨w.heap.size, 1, none⟩ = some (.int .i64 ki) := by simp only [World.cell?, hn]; rfl
 have c2 : wb.cell? ⟨w.heap.size, 2, none⟩ = some (.string (st s)) := by simp only [World.cell?, hn]; rfl
 have c3 : wb.cell? ⟨w.heap.size, 3, none⟩ = some sl := by simp only [World.cell?, hn]; rfl
 have c4 : wb.cell? ⟨w.heap.size, 4, none⟩ = some sp := by simp only [World.cell?, hn]; rfl
 have hWb := hW.below hB
 have ha := quoted_w (s := s) hWb
 replace hWb := hide1 hWb
 replace hB := hide1 hB
 clear hW hn
 go_enter Tryz.func37, Tryz.ntmps37
 go_upto_region 1 with fail
 rw [← hwb]
 clear hwb
 go_wp2_with fail
 refine ha.mono ?_
 rintro e w1 ⟨rfl, ov', h1, h2⟩
 clear ha
 go_wp2
 go_end0
 exact AnK.ofB hB.out ⟨rfl, ov', h1, h2⟩
set_option maxHeartbeats 1600000 in
set_option maxRecDepth 100000 in
theorem val_4 {w : World} {q : Nat} {ov sl sp : Value} {z s : List UInt8} {ki : Int} {X : List UInt8} (hrow : ∀ w1, Below w.heap.size w w1 → Wt w1 q ov z → Calls Tryz.prog 62 #[.pointer (some ⟨q, 0, none⟩), .int .i32 91, .int .i32 93, sl, .func (.func 37) #[.pointer (some ⟨q, 0, none⟩)] #[]] w1 (AnK q ov (z ++ X) w1)) (hW : Wt w q ov z) : Calls Tryz.prog 37 #[.pointer (some ⟨q, 0, none⟩), .agg #[.int .i64 4, .int .i64 ki, .string (st s), sl, sp]] w (AnK q ov (z ++ X) w) := by
 obtain ⟨wb, hwb⟩ : ∃ wb, wb = w.alloc (.cells #[.int .i64 4, .int .i64 ki, .string (st s), sl, sp] 28) := ⟨_, rfl⟩
 have hB : Below w.heap.size w wb := by rw [hwb]; exact (Below.refl _ _).alloc (Nat.le_refl _) _
 have hn : wb.heap[w.heap.size]? = some (.cells #[.int .i64 4, .int .i64 ki, .string (st s), sl, sp] 28 (0, 0)) := by
  rw [hwb]
  show (w.heap.push _)[w.heap.size]? = _
  rw [Array.getElem?_push, if_pos rfl]
 have c0 : wb.cell? ⟨w.heap.size, 0, none⟩ = some (.int .i64 4) := by simp only [World.cell?, hn]; rfl
 have c1 : wb.cell? ⟨w.heap.size, 1, none⟩ = some (.int .i64 ki) := by simp only [World.cell?, hn]; rfl
 have c2 : wb.cell? ⟨w.heap.size, 2, none⟩ = some (.string (st s)) := by simp only [World.cell?, hn]; rfl
 have c3 : wb.cell? ⟨w.heap.size, 3, none⟩ = some sl := by simp only [World.cell?, hn]; rfl
 have c4 : wb.cell? ⟨w.heap.size, 4, none⟩ = some sp := by simp only [World.cell?, hn]; rfl
 have hWb := hW.below hB
 have ha := hrow wb hB hWb
 replace hWb := hide1 hWb
 replace hB := hide1 hB
 clear hW hn
 go_enter Tryz.func37, Tryz.ntmps37
 go_upto_region 1 with fail
 rw [← hwb]
 clear hwb
 go_wp2_with fail
 refine ha.mono ?_
 rintro e w1 ⟨rfl, ov', h1, h2⟩
 clear ha
 go_wp2
 go_end0
 exact AnK.ofB hB.out ⟨rfl, ov', h1, h2⟩
set_option maxHeartbeats 1600000 in
set_option maxRecDepth 100000 in
theorem val_5 {w : World} {q : Nat} {ov sl sp : Value} {z s : List UInt8} {ki : Int} {X : List UInt8} (hrow : ∀ w1, Below w.heap.size w w1 → Wt w1 q ov z → Calls Tryz.prog 63 #[.pointer (some ⟨q, 0, none⟩), .int .i32 123, .int .i32 125, sp, .func (.func 64) #[.pointer (some ⟨q, 0, none⟩)] #[]] w1 (AnK q ov (z ++ X) w1)) (hW : Wt w q ov z) : Calls Tryz.prog 37 #[.pointer (some ⟨q, 0, none⟩), .agg #[.int .i64 5, .int .i64 ki, .string (st s), sl, sp]] w (AnK q ov (z ++ X) w) := by
 obtain ⟨wb, hwb⟩ : ∃ wb, wb = w.alloc (.cells #[.int .i64 5, .int .i64 ki, .string (st s), sl, sp] 28) := ⟨_, rfl⟩
 have hB : Below w.heap.size w wb := by rw [hwb]; exact (Below.refl _ _).alloc (Nat.le_refl _) _
 have hn : wb.heap[w.heap.size]? = some (.cells #[.int .i64 5, .int .i64 ki, .string (st s), sl, sp] 28 (0, 0)) := by
  rw [hwb]
  show (w.heap.push _)[w.heap.size]? = _
  rw [Array.getElem?_push, if_pos rfl]
 have c0 : wb.cell? ⟨w.heap.size, 0, none⟩ = some (.int .i64 5) := by simp only [World.cell?, hn]; rfl
 have c1 : wb.cell? ⟨w.heap.size, 1, none⟩ = some (.int .i64 ki) := by simp only [World.cell?, hn]; rfl
 have c2 : wb.cell? ⟨w.heap.size, 2, none⟩ = some (.string (st s)) := by simp only [World.cell?, hn]; rfl
 have c3 : wb.cell? ⟨w.heap.size, 3, none⟩ = some sl := by simp only [World.cell?, hn]; rfl
 have c4 : wb.cell? ⟨w.heap.size, 4, none⟩ = some sp := by simp only [World.cell?, hn]; rfl
 have hWb := hW.below hB
 have ha := hrow wb hB hWb
 replace hWb := hide1 hWb
 replace hB := hide1 hB
 clear hW hn
 go_enter Tryz.func37, Tryz.ntmps37
 go_upto_region 1 with fail
 rw [← hwb]
 clear hwb
 go_wp2_with fail
 refine ha.mono ?_
 rintro e w1 ⟨rfl, ov', h1, h2⟩
 clear ha
 go_wp2
 go_end0
 exact AnK.ofB hB.out ⟨rfl, ov', h1, h2⟩
theorem pair_w {w : World} {q : Nat} {ov : Value} {z s X : List UInt8} {c : List Value} (hc : c.length = 5) (hW : Wt w q ov z)
  (hval : ∀ (w1 : World) (ov1 : Value) (z1 : List UInt8), Wk q ov ov1 w w1 → Wt w1 q ov1 z1 → Calls Tryz.prog 37 #[.pointer (some ⟨q, 0, none⟩), .agg c.toArray] w1 (AnK q ov1 (z1 ++ X) w1)) :
  Calls Tryz.prog 64 #[.pointer (some ⟨q, 0, none⟩), .agg (Value.string (st s) :: c).toArray] w (AnK q ov (z ++ (qu s ++ 58 :: X)) w) := by
 obtain ⟨x1, x2, x3, x4, x5, rfl⟩ := five_l hc
 obtain ⟨wb, hwb⟩ : ∃ wb, wb = w.alloc (.cells #[.string (st s), x1, x2, x3, x4, x5] 49) := ⟨_, rfl⟩
 have hB : Below w.heap.size w wb := by rw [hwb]; exact (Below.refl _ _).alloc (Nat.le_refl _) _
 have hn : wb.heap[w.heap.size]? = some (.cells #[.string (st s), x1, x2, x3, x4, x5] 49 (0, 0)) := by
  rw [hwb]
  show (w.heap.push _)[w.heap.size]? = _
  rw [Array.getElem?_push, if_pos rfl]
 have c0 : wb.cell? ⟨w.heap.size, 0, none⟩ = some (.string (st s)) := by simp only [World.cell?, hn]; rfl
 obtain ⟨f1, f2⟩ := hW.fresh
 have hWb := hW.below hB
 have ha := quoted_w (s := s) hWb
 have hkb : Wk q ov ov w wb := Wk.ofB hB
 obtain ⟨p, hp⟩ : ∃ p, p = w.heap.size := ⟨_, rfl⟩
 rw [← hp] at hn c0 f1 f2
 have hpl : p < wb.heap.size := (Array.getElem?_eq_some_iff.1 hn).1
 replace hn := hide1 hn
 replace hkb := hide1 hkb
 clear hW hWb hB
 show Calls Tryz.prog 64 #[.pointer (some ⟨q, 0, none⟩), .agg #[.string (st s), x1, x2, x3, x4, x5]] w _
 go_enter Tryz.func64, Tryz.ntmps64
 go_upto_region 1 with fail
 rw [← hwb, ← hp]
 clear hwb hp
 go_wp2_with fail
 refine ha.mono ?_
 rintro e w1 ⟨rfl, ov1, h1, k1⟩
 have hn1 := (k1.block p hpl f1 f2).trans hn.out
 have hp1 : p ≠ q ∧ ov1.ownBlock ≠ some p := ⟨f1, fun e => (k1.own p e).elim f2 fun h => by omega⟩
 have hpl1 : p < w1.heap.size := (Array.getElem?_eq_some_iff.1 hn1).1
 have hs := sign_58 h1
 have hk1 := hide1 (hkb.out.trans k1)
 replace hn1 := hide1 hn1
 clear ha h1 k1 hn hkb c0
 go_wp2_with fail
 refine hs.mono ?_
 rintro e w2 ⟨rfl, ov2, h2, k2⟩
 have hn2 := (k2.block p hpl1 hp1.1 hp1.2).trans hn1.out
 have hr : w2.rangeAt p 1 [x1, x2, x3, x4, x5] := fun j u hj => by
  simp only [World.cell?, hn2]
  match j, hj with
  | 0, hj | 1, hj | 2, hj | 3, hj | 4, hj => simpa using hj
  | _ + 5, hj => simp at hj
 have hk2 := hide1 (hk1.out.trans k2)
 have hv := hval w2 ov2 _ hk2.out h2
 clear hs h2 k2 hn2 hn1 hk1
 go_wp2_with (first | refine wpList_load_mid rfl 28 (.tmp 11) rfl p 1 rfl [x1, x2, x3, x4, x5] _ hr Tryz.underlying28 rfl (by kernel_rfl) ?_ | fail)
 refine hv.mono ?_
 rintro e w3 ⟨rfl, ov3, h3, k3⟩
 have hk3 := hide1 (hk2.out.trans k3)
 have h3' : Hid (Wt w3 q ov3 (z ++ (qu s ++ 58 :: X))) := hide1 (by simpa [List.append_assoc] using h3)
 clear hv h3 k3 hk2 hr
 go_wp2
 go_end0
 exact ⟨rfl, ov3, h3'.out, hk3.out⟩
end Go.Proofs.YtbemaloaobeblaaGreatDoor

namespace Go.Proofs.YtbemaloaobeblaaGreatDoor
open Go.RowKit

def sgn (c : Nat) : List UInt8 :=
 if c < 128 then [UInt8.ofNat c] else if c < 2048 then [UInt8.ofNat (192 + c / 64), UInt8.ofNat (128 + c % 64)]
 else if c < 65536 then [UInt8.ofNat (224 + c / 4096), UInt8.ofNat (128 + c / 64 % 64), UInt8.ofNat (128 + c % 64)]
 else [UInt8.ofNat (240 + c / 262144), UInt8.ofNat (128 + c / 4096 % 64), UInt8.ofNat (128 + c / 64 % 64), UInt8.ofNat (128 + c % 64)]
def bc (l : List UInt8) : Array Value := (l.map fun x => Value.int .u8 (x.toNat : Nat)).toArray
theorem of_u8 {n : Nat} (h : n < 256) : (UInt8.ofNat n).toNat = n := by simp; omega
set_option maxHeartbeats 4000000 in
set_option maxRecDepth 100000 in
theorem rsign_d {c : Nat} (hc : c ≤ 1114111) {w : World} : Calls Tryz.prog 88 #[.int .i64 (c : Nat)] w fun e w' => e = .returned (.slice (some ⟨w.heap.size, 0, none⟩) (sgn c).length (sgn c).length) ∧ w' = w.alloc (.cells (bc (sgn c)) 5) := by
 unfold sgn
 by_cases h1 : c < 128
 ·rw [if_pos h1]
  simp only [bc, List.map_cons, List.map_nil, List.length_cons, List.length_nil]
  rw [of_u8 (by omega)]
  go_enter Tryz.func88, Tryz.ntmps88
  go_wp2
  go_ret
  exact ⟨rfl, rfl⟩
 rw [if_neg h1]
 by_cases h2 : c < 2048
 ·rw [if_pos h2]
  simp only [bc, List.map_cons, List.map_nil, List.length_cons, List.length_nil]
  rw [of_u8 (by omega), of_u8 (by omega)]
  go_enter Tryz.func88, Tryz.ntmps88
  go_wp2
  go_ret
  exact ⟨rfl, rfl⟩
 rw [if_neg h2]
 by_cases h3 : c < 65536
 ·rw [if_pos h3]
  simp only [bc, List.map_cons, List.map_nil, List.length_cons, List.length_nil]
  rw [of_u8 (by omega), of_u8 (by omega), of_u8 (by omega)]
  have d1 : decide ((c : Int) < 128) = false := decide_eq_false (by omega)
  have d2 : decide ((c : Int) < 2048) = false := decide_eq_false (by omega)
  have d3 : decide ((c : Int) < 65536) = true := decide_eq_true (by omega)
  have b1 : c / 4096 < 16 := by omega
  clear h1 h2 h3 hc
  go_enter Tryz.func88, Tryz.ntmps88
  go_wp2
  go_ret
  exact ⟨rfl, rfl⟩
 rw [if_neg h3]
 simp only [bc, List.map_cons, List.map_nil, List.length_cons, List.length_nil]
 rw [of_u8 (by omega), of_u8 (by omega), of_u8 (by omega), of_u8 (by omega)]
 have d1 : decide ((c : Int) < 128) = false := decide_eq_false (by omega)
 have d2 : decide ((c : Int) < 2048) = false := decide_eq_false (by omega)
 have d3 : decide ((c : Int) < 65536) = false := decide_eq_false (by omega)
 have b1 : c / 262144 < 5 := by omega
 clear h1 h2 h3 hc
 go_enter Tryz.func88, Tryz.ntmps88
 go_wp2
 go_ret
 exact ⟨rfl, rfl⟩
def fcl (c : Nat) : Nat → List UInt8 → Option Nat
 | 0, _ => some c
 | _ + 1, [] => none
 | k + 1, b :: l => if b.toNat < 128 ∨ 191 < b.toNat then none else fcl (64 * c + b.toNat - 128) k l
theorem fcl_at {c k i : Nat} {m : List UInt8} {x : UInt8} (h : m[i]? = some x) : fcl c (k + 1) (m.drop i) = if x.toNat < 128 ∨ 191 < x.toNat then none else fcl (64 * c + x.toNat - 128) k (m.drop (i + 1)) := by
 obtain ⟨h1, h2⟩ := List.getElem?_eq_some_iff.1 h
 rw [List.drop_eq_getElem_cons h1, h2]
 rfl
def bdc (c : Nat) : Prop := 1114111 < c ∨ (55296 ≤ c ∧ c ≤ 57343)
instance (c : Nat) : Decidable (bdc c) := by unfold bdc; infer_instance
def fend (n c : Nat) (l : List UInt8) : Nat × Nat := if bdc c ∨ sgn c ≠ l.take n then (0, 0) else (c, n)
def fgo (n c0 : Nat) (l : List UInt8) : Nat × Nat := if l.length < n then (0, 0) else match fcl c0 (n - 1) l.tail with
 | none => (0, 0)
 | some c => fend n c l
def fstR : List UInt8 → Nat × Nat
 | [] => (0, 0)
 | b :: m => if b.toNat < 128 then fgo 1 b.toNat (b :: m) else if b.toNat < 192 then (0, 0) else if b.toNat < 224 then fgo 2 (b.toNat - 192) (b :: m) else if b.toNat < 240 then fgo 3 (b.toNat - 224) (b :: m) else fgo 4 (b.toNat - 240) (b :: m)
def AnF (w : World) (x : Nat × Nat) (e : Ending) (w' : World) : Prop := e = .returned (.tuple #[.int .i64 (x.1 : Nat), .int .i64 (x.2 : Nat)]) ∧ Below w.heap.size w w'
theorem BsA.take {w : World} {a : Option Addr} {n cap : Nat} {l : List UInt8} (h : BsA w (.slice a n cap) l) {k : Nat} (hk : k ≤ l.length) (c : Nat) : BsA w (.slice a k c) (l.take k) := by
 obtain ⟨a', cap', e, h⟩ := h
 cases e
 have hkl : (l.take k).length = k := by simp; omega
 refine ⟨a, c, by rw [hkl], ?_⟩
 rcases h with rfl | ⟨b, o, rfl, hb, hc⟩
 ·left; simp
 ·right
  refine ⟨b, o, rfl, hb, fun j x hj => hc j x ?_⟩
  rw [List.getElem?_take] at hj
  split at hj
  ·exact hj
  ·cases hj
theorem bc_at {l : List UInt8} {w : World} : BsA (w.alloc (.cells (bc l) 5)) (.slice (some ⟨w.heap.size, 0, none⟩) l.length l.length) l := by
 refine ⟨_, _, rfl, .inr ⟨_, _, rfl, by simp, fun j x hj => ?_⟩⟩
 have := new_at w (bc l) 5
 simp only [World.cell?, this]
 simp [bc, hj]
theorem BsA.bl {w w' : World} {v : Value} {l : List UInt8} (h : BsA w v l) (hb : Below w.heap.size w w') : BsA w' v l := h.below hb
theorem bi_gt (a b : Int) (w : World) : (binOp .gtr 3 (.int .i64 a) (.int .i64 b)).run Tryz.prog w = .ok (.bool (decide (a > b))) w := by
 simp [binOp, go_sem]
theorem bi_ge (a b : Int) (w : World) : (binOp .geq 3 (.int .i64 a) (.int .i64 b)).run Tryz.prog w = .ok (.bool (decide (a ≥ b))) w := by
 simp [binOp, go_sem]
theorem bi_le (a b : Int) (w : World) : (binOp .leq 3 (.int .i64 a) (.int .i64 b)).run Tryz.prog w = .ok (.bool (decide (a ≤ b))) w := by
 simp [binOp, go_sem]
theorem eg_gt {x u : Operand} {t : TypeId} (a b : Value) (w : World) : (eqGuard .gtr t x u a b).run Tryz.prog w = .ok () w := by simp [eqGuard, go_sem]
theorem eg_ge {x u : Operand} {t : TypeId} (a b : Value) (w : World) : (eqGuard .geq t x u a b).run Tryz.prog w = .ok () w := by simp [eqGuard, go_sem]
theorem eg_le {x u : Operand} {t : TypeId} (a b : Value) (w : World) : (eqGuard .leq t x u a b).run Tryz.prog w = .ok () w := by simp [eqGuard, go_sem]
theorem sl_to {b o n k cap : Nat} {i : Int} (hi : i = (k : Nat)) (hk : k ≤ cap) (w : World) : (Instr.sliceAt 22 (.slice (some ⟨b, o, none⟩) n cap) none (some (.int .i64 i)) none).run Tryz.prog w = .ok (.slice (some ⟨b, o, none⟩) k cap) w := by
 subst hi
 simp [Instr.sliceAt, go_sem, hk]
theorem str_ne (a b : List UInt8) (w : World) : (binOp .neq 9 (.string (st a)) (.string (st b))).run Tryz.prog w = .ok (.bool (!decide (a = b))) w := nq_s w
set_option maxHeartbeats 4000000 in
set_option maxRecDepth 100000 in
theorem first_0 {w : World} {v : Value} (h : BsA w v []) : Calls Tryz.prog 86 #[v] w (AnF w (fstR [])) := by
 obtain ⟨a, cap, rfl, -⟩ := h
 go_enter Tryz.func86, Tryz.ntmps86
 go_wp2
 go_ret2
 exact ⟨rfl, Below.refl _ _⟩
set_option maxHeartbeats 4000000 in
set_option maxRecDepth 100000 in
theorem first_x {w : World} {v : Value} {x : UInt8} {m : List UInt8} (h : BsA w v (x :: m)) (h1 : ¬ x.toNat < 128) (h2 : x.toNat < 192) : Calls Tryz.prog 86 #[v] w (AnF w (0, 0)) := by
 obtain ⟨a, cap, rfl, h⟩ := h
 obtain ⟨b, o, rfl, hb, hc⟩ := h.resolve_left (by simp)
 have c0 : w.cell? ⟨b, o, none⟩ = some (.int .u8 (x.toNat : Nat)) := hc 0 x rfl
 have hfin : Hid (AnF w (0, 0) (.returned (.tuple #[.int .i64 0, .int .i64 0])) w) := hide1 ⟨rfl, Below.refl _ _⟩
 simp only [List.length_cons]
 generalize m.length = N at *
 clear hc
 go_enter Tryz.func86, Tryz.ntmps86
 go_wp2
 all_goals (go_ret2; exact hfin.out)
set_option maxHeartbeats 4000000 in
set_option maxRecDepth 100000 in
theorem first_s2 {w : World} {v : Value} {x : UInt8} {m : List UInt8} (h : BsA w v (x :: m)) (h1 : 192 ≤ x.toNat) (h2 : x.toNat < 224) (hs : m.length + 1 < 2) : Calls Tryz.prog 86 #[v] w (AnF w (0, 0)) := by
 obtain ⟨a, cap, rfl, h⟩ := h
 obtain ⟨b, o, rfl, hb, hc⟩ := h.resolve_left (by simp)
 have c0 : w.cell? ⟨b, o, none⟩ = some (.int .u8 (x.toNat : Nat)) := hc 0 x rfl
 have hx := x.toNat_lt
 have hfin : Hid (AnF w (0, 0) (.returned (.tuple #[.int .i64 0, .int .i64 0])) w) := hide1 ⟨rfl, Below.refl _ _⟩
 simp only [List.length_cons]
 generalize m.length = N at *
 clear hc
 go_enter Tryz.func86, Tryz.ntmps86
 go_wp2
 all_goals (go_ret2; exact hfin.out)
set_option maxHeartbeats 4000000 in
set_option maxRecDepth 100000 in
theorem first_s3 {w : World} {v : Value} {x : UInt8} {m : List UInt8} (h : BsA w v (x :: m)) (h1 : 224 ≤ x.toNat) (h2 : x.toNat < 240) (hs : m.length + 1 < 3) : Calls Tryz.prog 86 #[v] w (AnF w (0, 0)) := by
 obtain ⟨a, cap, rfl, h⟩ := h
 obtain ⟨b, o, rfl, hb, hc⟩ := h.resolve_left (by simp)
 have c0 : w.cell? ⟨b, o, none⟩ = some (.int .u8 (x.toNat : Nat)) := hc 0 x rfl
 have hx := x.toNat_lt
 have hfin : Hid (AnF w (0, 0) (.returned (.tuple #[.int .i64 0, .int .i64 0])) w) := hide1 ⟨rfl, Below.refl _ _⟩
 simp only [List.length_cons]
 generalize m.length = N at *
 clear hc
 go_enter Tryz.func86, Tryz.ntmps86
 go_wp2
 all_goals (go_ret2; exact hfin.out)
set_option maxHeartbeats 4000000 in
set_option maxRecDepth 100000 in
theorem first_s4 {w : World} {v : Value} {x : UInt8} {m : List UInt8} (h : BsA w v (x :: m)) (h1 : 240 ≤ x.toNat) (hs : m.length + 1 < 4) : Calls Tryz.prog 86 #[v] w (AnF w (0, 0)) := by
 obtain ⟨a, cap, rfl, h⟩ := h
 obtain ⟨b, o, rfl, hb, hc⟩ := h.resolve_left (by simp)
 have c0 : w.cell? ⟨b, o, none⟩ = some (.int .u8 (x.toNat : Nat)) := hc 0 x rfl
 have hx := x.toNat_lt
 have hfin : Hid (AnF w (0, 0) (.returned (.tuple #[.int .i64 0, .int .i64 0])) w) := hide1 ⟨rfl, Below.refl _ _⟩
 simp only [List.length_cons]
 generalize m.length = N at *
 clear hc
 go_enter Tryz.func86, Tryz.ntmps86
 go_wp2
 all_goals (go_ret2; exact hfin.out)
set_option maxHeartbeats 16000000 in
set_option maxRecDepth 100000 in
theorem first_n {n f0 : Nat} {w : World} {sa : Option Addr} {cap : Nat} {x : UInt8} {m : List UInt8} (h : BsA w (.slice sa (m.length + 1) cap) (x :: m)) (hcap : m.length + 1 ≤ cap) (hs : n ≤ m.length + 1)
  (hcl : (n = 1 ∧ f0 = x.toNat ∧ x.toNat < 128) ∨ (n = 2 ∧ f0 + 192 = x.toNat ∧ x.toNat < 224) ∨ (n = 3 ∧ f0 + 224 = x.toNat ∧ x.toNat < 240) ∨ (n = 4 ∧ f0 + 240 = x.toNat)) : Calls Tryz.prog 86 #[.slice sa (m.length + 1) cap] w (AnF w (fgo n f0 (x :: m))) := by
 have hall := h
 obtain ⟨_, _, e, h⟩ := h
 cases e
 obtain ⟨b, o, rfl, hb, hc⟩ := h.resolve_left (by simp)
 have cc : w.cell? ⟨b, o, none⟩ = some (.int .u8 (x.toNat : Nat)) := hc 0 x rfl
 have hx := x.toNat_lt
 have hR : Hid (fgo n f0 (x :: m) = match fcl f0 (n - 1) m with
  | none => (0, 0)
  | some c => fend n c (x :: m)) := hide1 (by unfold fgo; rw [if_neg (by simp only [List.length_cons]; omega)]; rfl)
 generalize fgo n f0 (x :: m) = R at *
 obtain ⟨N, hN⟩ : ∃ N, Hid (N = m.length) := ⟨_, hide1 rfl⟩
 rw [← hN.out] at hall hs hcap ⊢
 replace hall := hide1 hall
 replace hc := hide1 hc
 go_enter Tryz.func86, Tryz.ntmps86
 have hn4 : n ≤ 4 := by omega
 go_upto_if 15 with fail
 go_cut [4, 5] from 7 (fun s4 s5 wx => ∃ f k : Nat, s4 = .int .i64 (f : Nat) ∧ s5 = .int .i64 (k : Nat) ∧ (x.toNat < 192 ∧ f = x.toNat ∧ k = 1 ∨ f + 192 = x.toNat ∧ k = 2) ∧ wx = w)
 case first =>
  by_cases hq : x.toNat < 192
  ·go_wp2
   go_meet
   case rel => exact ⟨x.toNat, 1, rfl, rfl, .inl ⟨hq, rfl, rfl⟩, rfl⟩
  ·go_wp2
   go_meet
   case rel => exact ⟨x.toNat - 192, 2, by congr 1; omega, rfl, .inr ⟨by omega, rfl⟩, rfl⟩
 case rest =>
 obtain ⟨f1, k1, rfl, rfl, hc1, rfl⟩ := hcut
 go_upto_region 8 with fail
 go_cut [23] from 7 (fun s wx => s = .bool (decide (32 ≤ f1 ∧ k1 = 2)) ∧ wx = wc)
 case first =>
  rcases hc1 with ⟨-, -, rfl⟩ | ⟨-, rfl⟩
  all_goals by_cases hq : 32 ≤ f1
  all_goals
   go_wp2
   go_meet
   case rel => exact ⟨by simp [hq], rfl⟩
 case rest =>
 obtain ⟨rfl, rfl⟩ := hcut
 go_upto_if 23 with fail
 go_cut [4, 5] from 7 (fun s4 s5 wx => ∃ f k : Nat, s4 = .int .i64 (f : Nat) ∧ s5 = .int .i64 (k : Nat) ∧ (x.toNat < 192 ∧ f = x.toNat ∧ k = 1 ∨ x.toNat < 224 ∧ f + 192 = x.toNat ∧ k = 2 ∨ f + 224 = x.toNat ∧ k = 3) ∧ wx = wc)
 case first =>
  by_cases hq : 32 ≤ f1 ∧ k1 = 2
  ·rw [decide_eq_true hq]
   have hq1 := hq.1
   replace hq := hide1 hq
   go_wp2
   go_meet
   case rel => exact ⟨f1 - 32, 3, by congr 1; omega, rfl, by have := hq.out; omega, rfl⟩
  ·rw [decide_eq_false hq]
   replace hq := hide1 hq
   go_wp2
   go_meet
   case rel => exact ⟨f1, k1, rfl, rfl, by have := hq.out; omega, rfl⟩
 case rest =>
 obtain ⟨f2, k2, rfl, rfl, hc2, rfl⟩ := hcut
 clear hc1
 go_upto_region 11 with fail
 go_cut [31] from 7 (fun s wx => s = .bool (decide (16 ≤ f2 ∧ k2 = 3)) ∧ wx = wc)
 case first =>
  rcases hc2 with ⟨-, -, rfl⟩ | ⟨-, -, rfl⟩ | ⟨-, rfl⟩
  all_goals by_cases hq : 16 ≤ f2
  all_goals
   go_wp2
   go_meet
   case rel => exact ⟨by simp [hq], rfl⟩
 case rest =>
 obtain ⟨rfl, rfl⟩ := hcut
 go_upto_if 31 with fail
 go_cut [4, 5] from 7 (fun s4 s5 wx => s4 = .int .i64 (f0 : Nat) ∧ s5 = .int .i64 (n : Nat) ∧ wx = wc)
 case first =>
  by_cases hq : 16 ≤ f2 ∧ k2 = 3
  ·rw [decide_eq_true hq]
   have hq1 := hq.1
   replace hq := hide1 hq
   go_wp2
   go_meet
   case rel => have := hq.out; exact ⟨by congr 1; omega, by congr 1; omega, rfl⟩
  ·rw [decide_eq_false hq]
   replace hq := hide1 hq
   go_wp2
   go_meet
   case rel => have := hq.out; exact ⟨by congr 1; omega, by congr 1; omega, rfl⟩
 case rest =>
 obtain ⟨rfl, rfl, rfl⟩ := hcut
 clear hc2
 go_upto_region 14 with fail
 go_cut [45] from 7 (fun s wx => s = .bool false ∧ wx = wc)
 case first =>
  by_cases hq : n = 1
  ·subst hq
   go_wp2
   go_meet
   case rel => exact ⟨by rw [decide_eq_false (by omega), decide_eq_false (by omega)]; rfl, rfl⟩
  ·go_wp2
   go_meet
   case rel => exact ⟨by rw [decide_eq_false (by omega)], rfl⟩
 case rest =>
 obtain ⟨rfl, rfl⟩ := hcut
 go_wp2_with fail
 go_loopw [4, 6] (fun s4 s6 wr => ∃ c i : Nat, s4 = .int .i64 (c : Nat) ∧ s6 = .int .i64 (i : Nat) ∧ (i ≤ n ∧ ((i = 1 ∧ c < 128 ∧ (2 ≤ n → c < 32) ∧ (3 ≤ n → c < 16)) ∨ (i = 2 ∧ c < 2048 ∧ (3 ≤ n → c < 1024)) ∨ (i = 3 ∧ c < 65536) ∨ (i = 4 ∧ c < 4194304))) ∧ wr = wc ∧ Hid (fcl c (n - i) (m.drop (i - 1)) = fcl f0 (n - 1) m)) (fun _ s6 _ => n - (intOf s6).toNat)
 case atStart => exact ⟨f0, 1, rfl, rfl, by omega, rfl, hide1 rfl⟩
 case round =>
  obtain ⟨c, i, rfl, rfl, hci, rfl, hme⟩ := hrel
  by_cases hlt : i < n
  ·obtain ⟨y, hy⟩ : ∃ y, m[i - 1]? = some y := ⟨_, List.getElem?_eq_getElem (by have := hN.out; omega)⟩
   have hy2 := y.toNat_lt
   have ci : wr.cell? ⟨b, o + i, none⟩ = some (.int .u8 (y.toNat : Nat)) := hc.out i y (by
    rw [show i = (i - 1) + 1 by omega, List.getElem?_cons_succ]; exact hy)
   have hst := fcl_at (c := c) (k := n - i - 1) hy
   rw [show n - i - 1 + 1 = n - i by omega, hme.out, show i - 1 + 1 = i by omega] at hst
   have hi1 : 1 ≤ i := by omega
   have hcm : c < 8388608 := by omega
   by_cases hbad : y.toNat < 128
   ·have hfin : Hid (AnF wr R (.returned (.tuple #[.int .i64 0, .int .i64 0])) wr) := hide1 ⟨by rw [hR.out, hst, if_pos (.inl hbad)]; rfl, Below.refl _ _⟩
    clear hst hme hR hy hci hcm
    go_wp2
    go_ret2
    exact hfin.out
   ·by_cases hbad2 : 191 < y.toNat
    ·have hfin : Hid (AnF wr R (.returned (.tuple #[.int .i64 0, .int .i64 0])) wr) := hide1 ⟨by rw [hR.out, hst, if_pos (.inr hbad2)]; rfl, Below.refl _ _⟩
     clear hst hme hR hy hci hcm
     go_wp2
     go_ret2
     exact hfin.out
    ·rw [if_neg (by omega)] at hst
     replace hst := hide1 hst
     replace hci := hide1 hci
     clear hme hy
     go_wp2
     go_roundw
     case rel => exact ⟨64 * c + y.toNat - 128, i + 1, by congr 1; omega, rfl, by have := hci.out; omega, by first | rfl | trivial, by
      refine hide1 ?_
      rw [hst.out]
      congr 1⟩
     case measure => simp [intOf]; omega
  ·have hi : i = n := by omega
   subst i
   have hme2 : fcl f0 (n - 1) m = some c := by rw [← hme.out, Nat.sub_self]; rfl
   have hR2 : Hid (R = fend n c (x :: m)) := hide1 (by rw [hR.out, hme2])
   have hcm : c < 8388608 := by omega
   clear hme hme2 hR hci hlt hc hcl
   by_cases hbig : 1114111 < c
   ·have d1 : decide ((c : Int) > 1114111) = true := decide_eq_true (by omega)
    have hfin : Hid (∀ q, AnF wr R (.returned (.tuple #[.int .i64 0, .int .i64 0])) (wr.drewN q)) := hide1 fun q => ⟨by rw [hR2.out]; unfold fend; rw [if_pos (.inl (.inl hbig))]; rfl, below_drewNv (Below.refl _ _) q⟩
    clear hR2 hbig hcm hall
    go_wp2_with fail
    go_quiet (fail)
    go_wp2
    go_ret2
    exact hfin.out _
   ·have d1 : decide ((c : Int) > 1114111) = false := decide_eq_false (by omega)
    by_cases hsur : 55296 ≤ c ∧ c ≤ 57343
    ·have d2 : decide ((c : Int) ≥ 55296) = true := decide_eq_true (by omega)
     have d3 : decide ((c : Int) ≤ 57343) = true := decide_eq_true (by omega)
     have hfin : Hid (∀ q, AnF wr R (.returned (.tuple #[.int .i64 0, .int .i64 0])) (wr.drewN q)) := hide1 fun q => ⟨by rw [hR2.out]; unfold fend; rw [if_pos (.inl (.inr hsur))]; rfl, below_drewNv (Below.refl _ _) q⟩
     clear hR2 hbig hsur hcm hall
     go_wp2_with fail
     go_quiet (fail)
     go_wp2
     go_ret2
     exact hfin.out _
    ·have hsg := hide1 (fun wa : World => rsign_d (c := c) (by omega) (w := wa))
     have hA2 := hide1 (fun (wa : World) (hb : Below wr.heap.size wr wa) => conv_b ((hall.out.bl hb).take (k := n) (by simp only [List.length_cons]; have := hN.out; omega) cap))
     have hnd : ¬ bdc c := fun h => h.elim hbig hsur
     have hfin : Hid (∀ wa, Below wr.heap.size wr wa → AnF wr R (.returned (.tuple #[.int .i64 (if sgn c = (x :: m).take n then c else 0 : Nat), .int .i64 (if sgn c = (x :: m).take n then n else 0 : Nat)])) wa) := hide1 fun wa hb => ⟨by
      rw [hR2.out]; unfold fend
      by_cases hq : sgn c = (x :: m).take n
      ·rw [if_pos hq, if_pos hq, if_neg (fun h => h.elim hnd (fun h => h hq))]
      ·rw [if_neg hq, if_neg hq, if_pos (.inr hq)], hb⟩
     generalize hsgc : sgn c = sg at *
     generalize (x :: m).take n = tl at *
     by_cases hs2 : 55296 ≤ c
     ·have d2 : decide ((c : Int) ≥ 55296) = true := decide_eq_true (by omega)
      have d3 : decide ((c : Int) ≤ 57343) = false := decide_eq_false (by omega)
      clear hR2 hbig hsur hcm hall hnd hs2
      go_upto_region 22 with fail
      refine wp_flowG 19 _ _ (by kernel_rfl) (by kernel_rfl) (by kernel_rfl) rfl (fun j v w => if j = 12 then (fun v w => BsA w v sg) v w else v = ([(.int .i64 (c : Nat)), (.bool false), (.bool false), (.int .i64 (c : Nat)), (.bool true), (.bool true), (.int .i64 (c : Nat)), (.bool false), (.bool false), (.bool false), (.bool false), (.int .i64 (c : Nat)), undef, (.string (st sg)), (.slice (some ⟨b, o, none⟩) (N + 1) cap), (.int .i64 (n : Nat)), (.slice (some ⟨b, o, none⟩) n cap), (.string (st tl)), (.bool (!decide (sg = tl))), (.bool (!decide (sg = tl)))] : List Value).getD j undef) (fun j v w w' h hb => by
         by_cases e12 : j = 12
         ·subst e12; exact BsA.bl (l := sg) h hb
         ·simp only [if_neg e12] at h ⊢; exact h
         ) ?_ ?_
      ·intro j op hop hj a wa hwa hsz hsl hdep K hK
       match j, hop with
       | 0, hop =>
        obtain rfl := Option.some.inj hop
        have p4 : a.tmps.getD 4 undef = (.int .i64 (c : Nat)) := hsl 4 rfl
        exact .plain rfl (wp_val (w' := wa) (v := (.int .i64 (c : Nat))) (by simp only [execOp, Act.eval]; rw [show a.tmps.getD 4 undef = _ from p4]; rfl) (hK _ _ (Below.refl _ _) rfl))
       | 1, hop =>
        obtain rfl := Option.some.inj hop
        have t0 : a.tmps.getD 72 undef = (.int .i64 (c : Nat)) := hdep 0 _ 72 rfl rfl ⟨⟨0, .data⟩, by simp, rfl, rfl⟩
        exact .plain rfl (wp_val (w' := wa) (v := (.bool false)) (by simp only [execOp, Act.eval]; rw [show a.tmps.getD 72 undef = _ from t0]; simp only [Sem.run_bind, eg_gt, bi_gt, d1, Result.andThen_ok, Sem.run_pure]) (hK _ _ (Below.refl _ _) rfl))
       | 2, hop =>
        obtain rfl := Option.some.inj hop
        have t1 : a.tmps.getD 73 undef = (.bool false) := hdep 1 _ 73 rfl rfl ⟨⟨1, .data⟩, by simp, rfl, rfl⟩
        exact .plain rfl (wp_val (w' := wa) (v := (.bool false)) (by simp only [execOp, Act.eval]; rw [show a.tmps.getD 73 undef = _ from t1]; rfl) (hK _ _ (Below.refl _ _) rfl))
       | 3, hop =>
        obtain rfl := Option.some.inj hop
        have gg : a.tmps.getD 74 undef = (.bool false) := hdep 2 _ 74 rfl rfl ⟨⟨2, .guard⟩, by simp, rfl, rfl⟩
        have p4 : a.tmps.getD 4 undef = (.int .i64 (c : Nat)) := hsl 4 rfl
        exact .want rfl rfl (by rw [hsz]; simp) gg (wp_val (w' := wa) (v := (.int .i64 (c : Nat))) (by simp only [execOp, Act.eval]; rw [show a.tmps.getD 4 undef = _ from p4]; rfl) (hK _ _ (Below.refl _ _) rfl))
       | 4, hop =>
        obtain rfl := Option.some.inj hop
        have gg : a.tmps.getD 74 undef = (.bool false) := hdep 2 _ 74 rfl rfl ⟨⟨2, .guard⟩, by simp, rfl, rfl⟩
        have t3 : a.tmps.getD 75 undef = (.int .i64 (c : Nat)) := hdep 3 _ 75 rfl rfl ⟨⟨3, .data⟩, by simp, rfl, rfl⟩
        exact .want rfl rfl (by rw [hsz]; simp) gg (wp_val (w' := wa) (v := (.bool true)) (by simp only [execOp, Act.eval]; rw [show a.tmps.getD 75 undef = _ from t3]; simp only [Sem.run_bind, eg_ge, bi_ge, d2, Result.andThen_ok, Sem.run_pure]) (hK _ _ (Below.refl _ _) rfl))
       | 5, hop =>
        obtain rfl := Option.some.inj hop
        have gg : a.tmps.getD 74 undef = (.bool false) := hdep 2 _ 74 rfl rfl ⟨⟨2, .guard⟩, by simp, rfl, rfl⟩
        have t4 : a.tmps.getD 76 undef = (.bool true) := hdep 4 _ 76 rfl rfl ⟨⟨4, .data⟩, by simp, rfl, rfl⟩
        exact .want rfl rfl (by rw [hsz]; simp) gg (wp_val (w' := wa) (v := (.bool true)) (by simp only [execOp, Act.eval]; rw [show a.tmps.getD 76 undef = _ from t4]; rfl) (hK _ _ (Below.refl _ _) rfl))
       | 6, hop =>
        obtain rfl := Option.some.inj hop
        have gg : a.tmps.getD 77 undef = (.bool true) := hdep 5 _ 77 rfl rfl ⟨⟨5, .guard⟩, by simp, rfl, rfl⟩
        have p4 : a.tmps.getD 4 undef = (.int .i64 (c : Nat)) := hsl 4 rfl
        exact .want rfl rfl (by rw [hsz]; simp) gg (wp_val (w' := wa) (v := (.int .i64 (c : Nat))) (by simp only [execOp, Act.eval]; rw [show a.tmps.getD 4 undef = _ from p4]; rfl) (hK _ _ (Below.refl _ _) rfl))
       | 7, hop =>
        obtain rfl := Option.some.inj hop
        have gg : a.tmps.getD 77 undef = (.bool true) := hdep 5 _ 77 rfl rfl ⟨⟨5, .guard⟩, by simp, rfl, rfl⟩
        have t6 : a.tmps.getD 78 undef = (.int .i64 (c : Nat)) := hdep 6 _ 78 rfl rfl ⟨⟨6, .data⟩, by simp, rfl, rfl⟩
        exact .want rfl rfl (by rw [hsz]; simp) gg (wp_val (w' := wa) (v := (.bool false)) (by simp only [execOp, Act.eval]; rw [show a.tmps.getD 78 undef = _ from t6]; simp only [Sem.run_bind, eg_le, bi_le, d3, Result.andThen_ok, Sem.run_pure]) (hK _ _ (Below.refl _ _) rfl))
       | 8, hop =>
        obtain rfl := Option.some.inj hop
        have gg : a.tmps.getD 74 undef = (.bool false) := hdep 2 _ 74 rfl rfl ⟨⟨2, .guard⟩, by simp, rfl, rfl⟩
        have t5 : a.tmps.getD 77 undef = (.bool true) := hdep 5 _ 77 rfl rfl ⟨⟨5, .data⟩, by simp, rfl, rfl⟩
        have t7 : a.tmps.getD 79 undef = (.bool false) := hdep 7 _ 79 rfl rfl ⟨⟨7, .data⟩, by simp, rfl, rfl⟩
        exact .want rfl rfl (by rw [hsz]; simp) gg (wp_val (w' := wa) (v := (.bool false)) (by simp only [execOp, Act.eval]; rw [show a.tmps.getD 77 undef = _ from t5, show a.tmps.getD 79 undef = _ from t7]; rfl) (hK _ _ (Below.refl _ _) rfl))
       | 9, hop =>
        obtain rfl := Option.some.inj hop
        have t2 : a.tmps.getD 74 undef = (.bool false) := hdep 2 _ 74 rfl rfl ⟨⟨2, .data⟩, by simp, rfl, rfl⟩
        have t8 : a.tmps.getD 80 undef = (.bool false) := hdep 8 _ 80 rfl rfl ⟨⟨8, .data⟩, by simp, rfl, rfl⟩
        exact .plain rfl (wp_val (w' := wa) (v := (.bool false)) (by simp only [execOp, Act.eval]; rw [show a.tmps.getD 74 undef = _ from t2, show a.tmps.getD 80 undef = _ from t8]; rfl) (hK _ _ (Below.refl _ _) rfl))
       | 10, hop =>
        obtain rfl := Option.some.inj hop
        have t9 : a.tmps.getD 81 undef = (.bool false) := hdep 9 _ 81 rfl rfl ⟨⟨9, .data⟩, by simp, rfl, rfl⟩
        exact .plain rfl (wp_val (w' := wa) (v := (.bool false)) (by simp only [execOp, Act.eval]; rw [show a.tmps.getD 81 undef = _ from t9]; rfl) (hK _ _ (Below.refl _ _) rfl))
       | 11, hop =>
        obtain rfl := Option.some.inj hop
        have gg : a.tmps.getD 82 undef = (.bool false) := hdep 10 _ 82 rfl rfl ⟨⟨10, .guard⟩, by simp, rfl, rfl⟩
        have p4 : a.tmps.getD 4 undef = (.int .i64 (c : Nat)) := hsl 4 rfl
        exact .want rfl rfl (by rw [hsz]; simp) gg (wp_val (w' := wa) (v := (.int .i64 (c : Nat))) (by simp only [execOp, Act.eval]; rw [show a.tmps.getD 4 undef = _ from p4]; rfl) (hK _ _ (Below.refl _ _) rfl))
       | 12, hop =>
        obtain rfl := Option.some.inj hop
        have gg : a.tmps.getD 82 undef = (.bool false) := hdep 10 _ 82 rfl rfl ⟨⟨10, .guard⟩, by simp, rfl, rfl⟩
        have t11 : a.tmps.getD 83 undef = (.int .i64 (c : Nat)) := hdep 11 _ 83 rfl rfl ⟨⟨11, .data⟩, by simp, rfl, rfl⟩
        refine .want rfl rfl (by rw [hsz]; simp) gg (oper_any (J := fun r w' => (fun v w => BsA w v sg) r w' ∧ Below wa.heap.size wa w') 88 #[.tmp 83] _ rfl #[(.int .i64 (c : Nat))] (by simp only [List.map_toArray, List.map_cons, List.map_nil, Act.eval]; rw [show a.tmps.getD 83 undef = _ from t11]) (fun w => by kernel_rfl) ((hsg.out wa).mono fun e w' h => ⟨_, h.1, by rw [h.2, ← hsgc]; exact bc_at, by rw [h.2]; exact below_al _⟩) ?_)
        rintro r w' ⟨hr, hb⟩
        exact hK _ _ hb hr
       | 13, hop =>
        obtain rfl := Option.some.inj hop
        have gg : a.tmps.getD 82 undef = (.bool false) := hdep 10 _ 82 rfl rfl ⟨⟨10, .guard⟩, by simp, rfl, rfl⟩
        have t12 : (fun v w => BsA w v sg) (a.tmps.getD 84 undef) wa := hdep 12 _ 84 rfl rfl ⟨⟨12, .data⟩, by simp, rfl, rfl⟩
        exact .want rfl rfl (by rw [hsz]; simp) gg (wp_val (w' := wa) (v := (.string (st sg))) (by simp only [execOp, Act.eval]; simp only [Sem.run_bind, conv_b t12, Result.andThen_ok, Sem.run_pure]) (hK _ _ (Below.refl _ _) rfl))
       | 14, hop =>
        obtain rfl := Option.some.inj hop
        have gg : a.tmps.getD 82 undef = (.bool false) := hdep 10 _ 82 rfl rfl ⟨⟨10, .guard⟩, by simp, rfl, rfl⟩
        have p0 : a.tmps.getD 0 undef = (.slice (some ⟨b, o, none⟩) (N + 1) cap) := hsl 0 rfl
        exact .want rfl rfl (by rw [hsz]; simp) gg (wp_val (w' := wa) (v := (.slice (some ⟨b, o, none⟩) (N + 1) cap)) (by simp only [execOp, Act.eval]; rw [show a.tmps.getD 0 undef = _ from p0]; rfl) (hK _ _ (Below.refl _ _) rfl))
       | 15, hop =>
        obtain rfl := Option.some.inj hop
        have gg : a.tmps.getD 82 undef = (.bool false) := hdep 10 _ 82 rfl rfl ⟨⟨10, .guard⟩, by simp, rfl, rfl⟩
        have p5 : a.tmps.getD 5 undef = (.int .i64 (n : Nat)) := hsl 5 rfl
        exact .want rfl rfl (by rw [hsz]; simp) gg (wp_val (w' := wa) (v := (.int .i64 (n : Nat))) (by simp only [execOp, Act.eval]; rw [show a.tmps.getD 5 undef = _ from p5]; rfl) (hK _ _ (Below.refl _ _) rfl))
       | 16, hop =>
        obtain rfl := Option.some.inj hop
        have gg : a.tmps.getD 82 undef = (.bool false) := hdep 10 _ 82 rfl rfl ⟨⟨10, .guard⟩, by simp, rfl, rfl⟩
        have t14 : a.tmps.getD 86 undef = (.slice (some ⟨b, o, none⟩) (N + 1) cap) := hdep 14 _ 86 rfl rfl ⟨⟨14, .data⟩, by simp, rfl, rfl⟩
        have t15 : a.tmps.getD 87 undef = (.int .i64 (n : Nat)) := hdep 15 _ 87 rfl rfl ⟨⟨15, .data⟩, by simp, rfl, rfl⟩
        exact .want rfl rfl (by rw [hsz]; simp) gg (wp_val (w' := wa) (v := (.slice (some ⟨b, o, none⟩) n cap)) (by simp only [execOp, Act.eval, Option.map_some, Option.map_none]; rw [show a.tmps.getD 86 undef = _ from t14, show a.tmps.getD 87 undef = _ from t15]; simp only [Sem.run_bind, sl_to (k := n) (i := (n : Nat)) rfl (show n ≤ cap by omega), Result.andThen_ok, Sem.run_pure]) (hK _ _ (Below.refl _ _) rfl))
       | 17, hop =>
        obtain rfl := Option.some.inj hop
        have gg : a.tmps.getD 82 undef = (.bool false) := hdep 10 _ 82 rfl rfl ⟨⟨10, .guard⟩, by simp, rfl, rfl⟩
        have t16 : a.tmps.getD 88 undef = (.slice (some ⟨b, o, none⟩) n cap) := hdep 16 _ 88 rfl rfl ⟨⟨16, .data⟩, by simp, rfl, rfl⟩
        exact .want rfl rfl (by rw [hsz]; simp) gg (wp_val (w' := wa) (v := (.string (st tl))) (by simp only [execOp, Act.eval]; rw [show a.tmps.getD 88 undef = _ from t16]; simp only [Sem.run_bind, hA2.out wa hwa, Result.andThen_ok, Sem.run_pure]) (hK _ _ (Below.refl _ _) rfl))
       | 18, hop =>
        obtain rfl := Option.some.inj hop
        have gg : a.tmps.getD 82 undef = (.bool false) := hdep 10 _ 82 rfl rfl ⟨⟨10, .guard⟩, by simp, rfl, rfl⟩
        have t13 : a.tmps.getD 85 undef = (.string (st sg)) := hdep 13 _ 85 rfl rfl ⟨⟨13, .data⟩, by simp, rfl, rfl⟩
        have t17 : a.tmps.getD 89 undef = (.string (st tl)) := hdep 17 _ 89 rfl rfl ⟨⟨17, .data⟩, by simp, rfl, rfl⟩
        exact .want rfl rfl (by rw [hsz]; simp) gg (wp_val (w' := wa) (v := (.bool (!decide (sg = tl)))) (by simp only [execOp, Act.eval]; rw [show a.tmps.getD 85 undef = _ from t13, show a.tmps.getD 89 undef = _ from t17]; simp only [Sem.run_bind, eg_s, str_ne, Result.andThen_ok, Sem.run_pure]) (hK _ _ (Below.refl _ _) rfl))
       | 19, _ => exact absurd rfl hj
       | _ + 20, hop => exact absurd hop (by simp)
      ·intro a wa hwa hdf hsz hsl hrr K hK
       have t10 : a.tmps.getD 82 undef = (.bool false) := hrr 10 _ 82 rfl (by decide) rfl
       have t18 : a.tmps.getD 90 undef = (.bool (!decide (sg = tl))) := hrr 18 _ 90 rfl (by decide) rfl
       refine .plain rfl (wp_val (w' := wa) (v := (.bool (!decide (sg = tl)))) (by simp only [execOp, Act.eval]; rw [show a.tmps.getD 82 undef = _ from t10, show a.tmps.getD 90 undef = _ from t18]; rfl) ?_)
       refine hK _ wa ?_
       have hact := act_puts hdf hsz hsl
       clear hrr hsl hdf hsz hK t10 t18
       simp only [List.filterMap_cons, List.filterMap_nil, List.foldl_cons, List.foldl_nil] at hact
       rw [hact]
       generalize a.tmps.getD 72 undef = y72
       generalize a.tmps.getD 73 undef = y73
       generalize a.tmps.getD 74 undef = y74
       generalize a.tmps.getD 75 undef = y75
       generalize a.tmps.getD 76 undef = y76
       generalize a.tmps.getD 77 undef = y77
       generalize a.tmps.getD 78 undef = y78
       generalize a.tmps.getD 79 undef = y79
       generalize a.tmps.getD 80 undef = y80
       generalize a.tmps.getD 81 undef = y81
       generalize a.tmps.getD 82 undef = y82
       generalize a.tmps.getD 83 undef = y83
       generalize a.tmps.getD 84 undef = y84
       generalize a.tmps.getD 85 undef = y85
       generalize a.tmps.getD 86 undef = y86
       generalize a.tmps.getD 87 undef = y87
       generalize a.tmps.getD 88 undef = y88
       generalize a.tmps.getD 89 undef = y89
       generalize a.tmps.getD 90 undef = y90
       clear hact
       simp only [Act.put, List.setIfInBounds_toArray, List.set_cons_succ, List.set_cons_zero]
       have hf2 := hide1 (hfin.out wa hwa)
       clear hfin hsg hA2 hwa
       by_cases hq : sg = tl
       ·have hd : (!decide (sg = tl)) = false := by rw [decide_eq_true hq]; rfl
        rw [if_pos hq, if_pos hq] at hf2
        rw [hd]
        clear hd hq
        go_wp2
        go_ret2
        exact hf2.out
       ·have hd : (!decide (sg = tl)) = true := by rw [decide_eq_false hq]; rfl
        rw [if_neg hq, if_neg hq] at hf2
        rw [hd]
        clear hd hq
        go_wp2
        go_ret2
        exact hf2.out
     ·have d2 : decide ((c : Int) ≥ 55296) = false := decide_eq_false (by omega)
      clear hR2 hbig hsur hcm hall hnd hs2
      go_upto_region 22 with fail
      refine wp_flowG 19 _ _ (by kernel_rfl) (by kernel_rfl) (by kernel_rfl) rfl (fun j v w => if j = 12 then (fun v w => BsA w v sg) v w else v = ([(.int .i64 (c : Nat)), (.bool false), (.bool false), (.int .i64 (c : Nat)), (.bool false), (.bool false), undef, undef, (.bool false), (.bool false), (.bool false), (.int .i64 (c : Nat)), undef, (.string (st sg)), (.slice (some ⟨b, o, none⟩) (N + 1) cap), (.int .i64 (n : Nat)), (.slice (some ⟨b, o, none⟩) n cap), (.string (st tl)), (.bool (!decide (sg = tl))), (.bool (!decide (sg = tl)))] : List Value).getD j undef) (fun j v w w' h hb => by
         by_cases e12 : j = 12
         ·subst e12; exact BsA.bl (l := sg) h hb
         ·simp only [if_neg e12] at h ⊢; exact h
         ) ?_ ?_
      ·intro j op hop hj a wa hwa hsz hsl hdep K hK
       match j, hop with
       | 0, hop =>
        obtain rfl := Option.some.inj hop
        have p4 : a.tmps.getD 4 undef = (.int .i64 (c : Nat)) := hsl 4 rfl
        exact .plain rfl (wp_val (w' := wa) (v := (.int .i64 (c : Nat))) (by simp only [execOp, Act.eval]; rw [show a.tmps.getD 4 undef = _ from p4]; rfl) (hK _ _ (Below.refl _ _) rfl))
       | 1, hop =>
        obtain rfl := Option.some.inj hop
        have t0 : a.tmps.getD 72 undef = (.int .i64 (c : Nat)) := hdep 0 _ 72 rfl rfl ⟨⟨0, .data⟩, by simp, rfl, rfl⟩
        exact .plain rfl (wp_val (w' := wa) (v := (.bool false)) (by simp only [execOp, Act.eval]; rw [show a.tmps.getD 72 undef = _ from t0]; simp only [Sem.run_bind, eg_gt, bi_gt, d1, Result.andThen_ok, Sem.run_pure]) (hK _ _ (Below.refl _ _) rfl))
       | 2, hop =>
        obtain rfl := Option.some.inj hop
        have t1 : a.tmps.getD 73 undef = (.bool false) := hdep 1 _ 73 rfl rfl ⟨⟨1, .data⟩, by simp, rfl, rfl⟩
        exact .plain rfl (wp_val (w' := wa) (v := (.bool false)) (by simp only [execOp, Act.eval]; rw [show a.tmps.getD 73 undef = _ from t1]; rfl) (hK _ _ (Below.refl _ _) rfl))
       | 3, hop =>
        obtain rfl := Option.some.inj hop
        have gg : a.tmps.getD 74 undef = (.bool false) := hdep 2 _ 74 rfl rfl ⟨⟨2, .guard⟩, by simp, rfl, rfl⟩
        have p4 : a.tmps.getD 4 undef = (.int .i64 (c : Nat)) := hsl 4 rfl
        exact .want rfl rfl (by rw [hsz]; simp) gg (wp_val (w' := wa) (v := (.int .i64 (c : Nat))) (by simp only [execOp, Act.eval]; rw [show a.tmps.getD 4 undef = _ from p4]; rfl) (hK _ _ (Below.refl _ _) rfl))
       | 4, hop =>
        obtain rfl := Option.some.inj hop
        have gg : a.tmps.getD 74 undef = (.bool false) := hdep 2 _ 74 rfl rfl ⟨⟨2, .guard⟩, by simp, rfl, rfl⟩
        have t3 : a.tmps.getD 75 undef = (.int .i64 (c : Nat)) := hdep 3 _ 75 rfl rfl ⟨⟨3, .data⟩, by simp, rfl, rfl⟩
        exact .want rfl rfl (by rw [hsz]; simp) gg (wp_val (w' := wa) (v := (.bool false)) (by simp only [execOp, Act.eval]; rw [show a.tmps.getD 75 undef = _ from t3]; simp only [Sem.run_bind, eg_ge, bi_ge, d2, Result.andThen_ok, Sem.run_pure]) (hK _ _ (Below.refl _ _) rfl))
       | 5, hop =>
        obtain rfl := Option.some.inj hop
        have gg : a.tmps.getD 74 undef = (.bool false) := hdep 2 _ 74 rfl rfl ⟨⟨2, .guard⟩, by simp, rfl, rfl⟩
        have t4 : a.tmps.getD 76 undef = (.bool false) := hdep 4 _ 76 rfl rfl ⟨⟨4, .data⟩, by simp, rfl, rfl⟩
        exact .want rfl rfl (by rw [hsz]; simp) gg (wp_val (w' := wa) (v := (.bool false)) (by simp only [execOp, Act.eval]; rw [show a.tmps.getD 76 undef = _ from t4]; rfl) (hK _ _ (Below.refl _ _) rfl))
       | 6, hop =>
        obtain rfl := Option.some.inj hop
        have gg : a.tmps.getD 77 undef = (.bool false) := hdep 5 _ 77 rfl rfl ⟨⟨5, .guard⟩, by simp, rfl, rfl⟩
        exact .skip rfl rfl (by rw [hsz]; simp) gg (hK _ _ (Below.refl _ _) rfl)
       | 7, hop =>
        obtain rfl := Option.some.inj hop
        have gg : a.tmps.getD 77 undef = (.bool false) := hdep 5 _ 77 rfl rfl ⟨⟨5, .guard⟩, by simp, rfl, rfl⟩
        exact .skip rfl rfl (by rw [hsz]; simp) gg (hK _ _ (Below.refl _ _) rfl)
       | 8, hop =>
        obtain rfl := Option.some.inj hop
        have gg : a.tmps.getD 74 undef = (.bool false) := hdep 2 _ 74 rfl rfl ⟨⟨2, .guard⟩, by simp, rfl, rfl⟩
        have t5 : a.tmps.getD 77 undef = (.bool false) := hdep 5 _ 77 rfl rfl ⟨⟨5, .data⟩, by simp, rfl, rfl⟩
        have t7 : a.tmps.getD 79 undef = undef := hdep 7 _ 79 rfl rfl ⟨⟨7, .data⟩, by simp, rfl, rfl⟩
        exact .want rfl rfl (by rw [hsz]; simp) gg (wp_val (w' := wa) (v := (.bool false)) (by simp only [execOp, Act.eval]; rw [show a.tmps.getD 77 undef = _ from t5, show a.tmps.getD 79 undef = _ from t7]; rfl) (hK _ _ (Below.refl _ _) rfl))
       | 9, hop =>
        obtain rfl := Option.some.inj hop
        have t2 : a.tmps.getD 74 undef = (.bool false) := hdep 2 _ 74 rfl rfl ⟨⟨2, .data⟩, by simp, rfl, rfl⟩
        have t8 : a.tmps.getD 80 undef = (.bool false) := hdep 8 _ 80 rfl rfl ⟨⟨8, .data⟩, by simp, rfl, rfl⟩
        exact .plain rfl (wp_val (w' := wa) (v := (.bool false)) (by simp only [execOp, Act.eval]; rw [show a.tmps.getD 74 undef = _ from t2, show a.tmps.getD 80 undef = _ from t8]; rfl) (hK _ _ (Below.refl _ _) rfl))
       | 10, hop =>
        obtain rfl := Option.some.inj hop
        have t9 : a.tmps.getD 81 undef = (.bool false) := hdep 9 _ 81 rfl rfl ⟨⟨9, .data⟩, by simp, rfl, rfl⟩
        exact .plain rfl (wp_val (w' := wa) (v := (.bool false)) (by simp only [execOp, Act.eval]; rw [show a.tmps.getD 81 undef = _ from t9]; rfl) (hK _ _ (Below.refl _ _) rfl))
       | 11, hop =>
        obtain rfl := Option.some.inj hop
        have gg : a.tmps.getD 82 undef = (.bool false) := hdep 10 _ 82 rfl rfl ⟨⟨10, .guard⟩, by simp, rfl, rfl⟩
        have p4 : a.tmps.getD 4 undef = (.int .i64 (c : Nat)) := hsl 4 rfl
        exact .want rfl rfl (by rw [hsz]; simp) gg (wp_val (w' := wa) (v := (.int .i64 (c : Nat))) (by simp only [execOp, Act.eval]; rw [show a.tmps.getD 4 undef = _ from p4]; rfl) (hK _ _ (Below.refl _ _) rfl))
       | 12, hop =>
        obtain rfl := Option.some.inj hop
        have gg : a.tmps.getD 82 undef = (.bool false) := hdep 10 _ 82 rfl rfl ⟨⟨10, .guard⟩, by simp, rfl, rfl⟩
        have t11 : a.tmps.getD 83 undef = (.int .i64 (c : Nat)) := hdep 11 _ 83 rfl rfl ⟨⟨11, .data⟩, by simp, rfl, rfl⟩
        refine .want rfl rfl (by rw [hsz]; simp) gg (oper_any (J := fun r w' => (fun v w => BsA w v sg) r w' ∧ Below wa.heap.size wa w') 88 #[.tmp 83] _ rfl #[(.int .i64 (c : Nat))] (by simp only [List.map_toArray, List.map_cons, List.map_nil, Act.eval]; rw [show a.tmps.getD 83 undef = _ from t11]) (fun w => by kernel_rfl) ((hsg.out wa).mono fun e w' h => ⟨_, h.1, by rw [h.2, ← hsgc]; exact bc_at, by rw [h.2]; exact below_al _⟩) ?_)
        rintro r w' ⟨hr, hb⟩
        exact hK _ _ hb hr
       | 13, hop =>
        obtain rfl := Option.some.inj hop
        have gg : a.tmps.getD 82 undef = (.bool false) := hdep 10 _ 82 rfl rfl ⟨⟨10, .guard⟩, by simp, rfl, rfl⟩
        have t12 : (fun v w => BsA w v sg) (a.tmps.getD 84 undef) wa := hdep 12 _ 84 rfl rfl ⟨⟨12, .data⟩, by simp, rfl, rfl⟩
        exact .want rfl rfl (by rw [hsz]; simp) gg (wp_val (w' := wa) (v := (.string (st sg))) (by simp only [execOp, Act.eval]; simp only [Sem.run_bind, conv_b t12, Result.andThen_ok, Sem.run_pure]) (hK _ _ (Below.refl _ _) rfl))
       | 14, hop =>
        obtain rfl := Option.some.inj hop
        have gg : a.tmps.getD 82 undef = (.bool false) := hdep 10 _ 82 rfl rfl ⟨⟨10, .guard⟩, by simp, rfl, rfl⟩
        have p0 : a.tmps.getD 0 undef = (.slice (some ⟨b, o, none⟩) (N + 1) cap) := hsl 0 rfl
        exact .want rfl rfl (by rw [hsz]; simp) gg (wp_val (w' := wa) (v := (.slice (some ⟨b, o, none⟩) (N + 1) cap)) (by simp only [execOp, Act.eval]; rw [show a.tmps.getD 0 undef = _ from p0]; rfl) (hK _ _ (Below.refl _ _) rfl))
       | 15, hop =>
        obtain rfl := Option.some.inj hop
        have gg : a.tmps.getD 82 undef = (.bool false) := hdep 10 _ 82 rfl rfl ⟨⟨10, .guard⟩, by simp, rfl, rfl⟩
        have p5 : a.tmps.getD 5 undef = (.int .i64 (n : Nat)) := hsl 5 rfl
        exact .want rfl rfl (by rw [hsz]; simp) gg (wp_val (w' := wa) (v := (.int .i64 (n : Nat))) (by simp only [execOp, Act.eval]; rw [show a.tmps.getD 5 undef = _ from p5]; rfl) (hK _ _ (Below.refl _ _) rfl))
       | 16, hop =>
        obtain rfl := Option.some.inj hop
        have gg : a.tmps.getD 82 undef = (.bool false) := hdep 10 _ 82 rfl rfl ⟨⟨10, .guard⟩, by simp, rfl, rfl⟩
        have t14 : a.tmps.getD 86 undef = (.slice (some ⟨b, o, none⟩) (N + 1) cap) := hdep 14 _ 86 rfl rfl ⟨⟨14, .data⟩, by simp, rfl, rfl⟩
        have t15 : a.tmps.getD 87 undef = (.int .i64 (n : Nat)) := hdep 15 _ 87 rfl rfl ⟨⟨15, .data⟩, by simp, rfl, rfl⟩
        exact .want rfl rfl (by rw [hsz]; simp) gg (wp_val (w' := wa) (v := (.slice (some ⟨b, o, none⟩) n cap)) (by simp only [execOp, Act.eval, Option.map_some, Option.map_none]; rw [show a.tmps.getD 86 undef = _ from t14, show a.tmps.getD 87 undef = _ from t15]; simp only [Sem.run_bind, sl_to (k := n) (i := (n : Nat)) rfl (show n ≤ cap by omega), Result.andThen_ok, Sem.run_pure]) (hK _ _ (Below.refl _ _) rfl))
       | 17, hop =>
        obtain rfl := Option.some.inj hop
        have gg : a.tmps.getD 82 undef = (.bool false) := hdep 10 _ 82 rfl rfl ⟨⟨10, .guard⟩, by simp, rfl, rfl⟩
        have t16 : a.tmps.getD 88 undef = (.slice (some ⟨b, o, none⟩) n cap) := hdep 16 _ 88 rfl rfl ⟨⟨16, .data⟩, by simp, rfl, rfl⟩
        exact .want rfl rfl (by rw [hsz]; simp) gg (wp_val (w' := wa) (v := (.string (st tl))) (by simp only [execOp, Act.eval]; rw [show a.tmps.getD 88 undef = _ from t16]; simp only [Sem.run_bind, hA2.out wa hwa, Result.andThen_ok, Sem.run_pure]) (hK _ _ (Below.refl _ _) rfl))
       | 18, hop =>
        obtain rfl := Option.some.inj hop
        have gg : a.tmps.getD 82 undef = (.bool false) := hdep 10 _ 82 rfl rfl ⟨⟨10, .guard⟩, by simp, rfl, rfl⟩
        have t13 : a.tmps.getD 85 undef = (.string (st sg)) := hdep 13 _ 85 rfl rfl ⟨⟨13, .data⟩, by simp, rfl, rfl⟩
        have t17 : a.tmps.getD 89 undef = (.string (st tl)) := hdep 17 _ 89 rfl rfl ⟨⟨17, .data⟩, by simp, rfl, rfl⟩
        exact .want rfl rfl (by rw [hsz]; simp) gg (wp_val (w' := wa) (v := (.bool (!decide (sg = tl)))) (by simp only [execOp, Act.eval]; rw [show a.tmps.getD 85 undef = _ from t13, show a.tmps.getD 89 undef = _ from t17]; simp only [Sem.run_bind, eg_s, str_ne, Result.andThen_ok, Sem.run_pure]) (hK _ _ (Below.refl _ _) rfl))
       | 19, _ => exact absurd rfl hj
       | _ + 20, hop => exact absurd hop (by simp)
      ·intro a wa hwa hdf hsz hsl hrr K hK
       have t10 : a.tmps.getD 82 undef = (.bool false) := hrr 10 _ 82 rfl (by decide) rfl
       have t18 : a.tmps.getD 90 undef = (.bool (!decide (sg = tl))) := hrr 18 _ 90 rfl (by decide) rfl
       refine .plain rfl (wp_val (w' := wa) (v := (.bool (!decide (sg = tl)))) (by simp only [execOp, Act.eval]; rw [show a.tmps.getD 82 undef = _ from t10, show a.tmps.getD 90 undef = _ from t18]; rfl) ?_)
       refine hK _ wa ?_
       have hact := act_puts hdf hsz hsl
       clear hrr hsl hdf hsz hK t10 t18
       simp only [List.filterMap_cons, List.filterMap_nil, List.foldl_cons, List.foldl_nil] at hact
       rw [hact]
       generalize a.tmps.getD 72 undef = y72
       generalize a.tmps.getD 73 undef = y73
       generalize a.tmps.getD 74 undef = y74
       generalize a.tmps.getD 75 undef = y75
       generalize a.tmps.getD 76 undef = y76
       generalize a.tmps.getD 77 undef = y77
       generalize a.tmps.getD 78 undef = y78
       generalize a.tmps.getD 79 undef = y79
       generalize a.tmps.getD 80 undef = y80
       generalize a.tmps.getD 81 undef = y81
       generalize a.tmps.getD 82 undef = y82
       generalize a.tmps.getD 83 undef = y83
       generalize a.tmps.getD 84 undef = y84
       generalize a.tmps.getD 85 undef = y85
       generalize a.tmps.getD 86 undef = y86
       generalize a.tmps.getD 87 undef = y87
       generalize a.tmps.getD 88 undef = y88
       generalize a.tmps.getD 89 undef = y89
       generalize a.tmps.getD 90 undef = y90
       clear hact
       simp only [Act.put, List.setIfInBounds_toArray, List.set_cons_succ, List.set_cons_zero]
       have hf2 := hide1 (hfin.out wa hwa)
       clear hfin hsg hA2 hwa
       by_cases hq : sg = tl
       ·have hd : (!decide (sg = tl)) = false := by rw [decide_eq_true hq]; rfl
        rw [if_pos hq, if_pos hq] at hf2
        rw [hd]
        clear hd hq
        go_wp2
        go_ret2
        exact hf2.out
       ·have hd : (!decide (sg = tl)) = true := by rw [decide_eq_false hq]; rfl
        rw [if_neg hq, if_neg hq] at hf2
        rw [hd]
        clear hd hq
        go_wp2
        go_ret2
        exact hf2.out
theorem fst_c (x : UInt8) (m : List UInt8) : fstR (x :: m) = if x.toNat < 128 then fgo 1 x.toNat (x :: m) else if x.toNat < 192 then (0, 0) else if x.toNat < 224 then fgo 2 (x.toNat - 192) (x :: m) else if x.toNat < 240 then fgo 3 (x.toNat - 224) (x :: m) else fgo 4 (x.toNat - 240) (x :: m) := rfl
theorem first_d {w : World} {a : Option Addr} {cap : Nat} {l : List UInt8} (h : BsA w (.slice a l.length cap) l) (hcap : l.length ≤ cap) : Calls Tryz.prog 86 #[.slice a l.length cap] w (AnF w (fstR l)) := by
 cases l with
 | nil => exact first_0 h
 | cons x m =>
  simp only [List.length_cons] at h hcap ⊢
  rw [fst_c]
  by_cases h1 : x.toNat < 128
  ·rw [if_pos h1]
   exact first_n h hcap (by omega) (by omega)
  rw [if_neg h1]
  by_cases h2 : x.toNat < 192
  ·rw [if_pos h2]
   exact first_x h h1 h2
  rw [if_neg h2]
  by_cases h3 : x.toNat < 224
  ·rw [if_pos h3]
   by_cases hs : m.length + 1 < 2
   ·have : fgo 2 (x.toNat - 192) (x :: m) = (0, 0) := by unfold fgo; rw [if_pos (by simp only [List.length_cons]; omega)]
    rw [this]
    exact first_s2 h (by omega) h3 hs
   ·exact first_n h hcap (by omega) (by omega)
  rw [if_neg h3]
  by_cases h4 : x.toNat < 240
  ·rw [if_pos h4]
   by_cases hs : m.length + 1 < 3
   ·have : fgo 3 (x.toNat - 224) (x :: m) = (0, 0) := by unfold fgo; rw [if_pos (by simp only [List.length_cons]; omega)]
    rw [this]
    exact first_s3 h (by omega) h4 hs
   ·exact first_n h hcap (by omega) (by omega)
  rw [if_neg h4]
  by_cases hs : m.length + 1 < 4
  ·have : fgo 4 (x.toNat - 240) (x :: m) = (0, 0) := by unfold fgo; rw [if_pos (by simp only [List.length_cons]; omega)]
   rw [this]
   exact first_s4 h (by omega) hs
  ·exact first_n h hcap (by omega) (by omega)
def frs (l : List UInt8) : Nat × Nat := if l = [] ∨ ((Lib.decodeL l).1 = 65533 ∧ (Lib.decodeL l).2 = 1) then (0, 0) else Lib.decodeL l
theorem frs_bad {l : List UInt8} (h : Lib.decodeL l = (65533, 1)) : frs l = (0, 0) := by unfold frs; rw [if_pos (.inr (by rw [h]; exact ⟨rfl, rfl⟩))]
theorem frs_good {l : List UInt8} {c n : Nat} (hl : l ≠ []) (h : Lib.decodeL l = (c, n)) (hc : ¬ (c = 65533 ∧ n = 1)) : frs l = (c, n) := by unfold frs; rw [if_neg (fun e => e.elim hl (by rw [h]; exact hc)), h]
theorem u8_of {x : UInt8} {n : Nat} (h : n = x.toNat) : UInt8.ofNat n = x := by subst h; simp
theorem fend_bad {n c : Nat} {l : List UInt8} (h : bdc c ∨ sgn c ≠ l.take n) : fend n c l = (0, 0) := by unfold fend; rw [if_pos h]
theorem fend_good {n c : Nat} {l : List UInt8} (h : ¬ bdc c) (h2 : sgn c = l.take n) : fend n c l = (c, n) := by unfold fend; rw [if_neg (fun e => e.elim h (fun e => e h2))]
theorem sgn_len (c : Nat) : (sgn c).length = if c < 128 then 1 else if c < 2048 then 2 else if c < 65536 then 3 else 4 := by
 unfold sgn
 split
 ·rfl
 ·split
  ·rfl
  ·split <;> rfl
theorem fst_2 {x : UInt8} {m : List UInt8} (h1 : 192 ≤ x.toNat) (h2 : x.toNat < 224) : fgo 2 (x.toNat - 192) (x :: m) = frs (x :: m) := by
 cases m with
 | nil =>
  rw [frs_bad]
  ·unfold fgo; rw [if_pos (by simp)]
  ·rw [Lib.decodeL_N]; unfold Lib.decodeN
   simp only [List.length_cons, List.length_nil, List.getD_cons_zero]
   rw [if_neg (by omega), if_neg (by omega), if_neg (by omega), if_neg (by omega)]
 | cons y m =>
  have hy := y.toNat_lt
  unfold fgo
  rw [if_neg (by simp)]
  simp only [List.tail_cons, Nat.add_one_sub_one, fcl]
  have hd : Lib.decodeL (x :: y :: m) = if y.toNat / 64 = 2 then (if 128 ≤ x.toNat % 32 * 64 + y.toNat % 64 then (x.toNat % 32 * 64 + y.toNat % 64, 2) else (65533, 1)) else (65533, 1) := by
   rw [Lib.decodeL_N]; unfold Lib.decodeN
   simp only [List.length_cons, List.getD_cons_zero, List.getD_cons_succ]
   rw [if_neg (by omega)]
   by_cases hq : y.toNat / 64 = 2
   ·rw [if_pos ⟨by omega, by omega, hq⟩, if_pos hq]
   ·rw [if_neg (fun e => hq e.2.2), if_neg hq, if_neg (by omega), if_neg (by omega)]
  by_cases hb : y.toNat < 128 ∨ 191 < y.toNat
  ·rw [if_pos hb]
   rw [if_neg (by omega)] at hd
   rw [frs_bad hd]
  ·rw [if_neg hb]
   rw [if_pos (by omega)] at hd
   simp only
   have hc : 64 * (x.toNat - 192) + y.toNat - 128 = x.toNat % 32 * 64 + y.toNat % 64 := by omega
   rw [hc]
   by_cases hq : 128 ≤ x.toNat % 32 * 64 + y.toNat % 64
   ·rw [if_pos hq] at hd
    rw [frs_good (by simp) hd (by omega), fend_good (by unfold bdc; omega)]
    unfold sgn
    rw [if_neg (by omega), if_pos (by omega)]
    simp only [List.take_succ_cons, List.take_zero]
    rw [u8_of (x := x) (by omega), u8_of (x := y) (by omega)]
   ·rw [if_neg hq] at hd
    rw [frs_bad hd, fend_bad (.inr fun e => ?_)]
    have := congrArg List.length e
    rw [sgn_len, if_pos (by omega)] at this
    simp at this
theorem fst_3 {x : UInt8} {m : List UInt8} (h1 : 224 ≤ x.toNat) (h2 : x.toNat < 240) : fgo 3 (x.toNat - 224) (x :: m) = frs (x :: m) := by
 match m with
 | [] =>
  rw [frs_bad]
  ·unfold fgo; rw [if_pos (by simp)]
  ·rw [Lib.decodeL_N]; unfold Lib.decodeN
   simp only [List.length_cons, List.length_nil, List.getD_cons_zero]
   rw [if_neg (by omega), if_neg (by omega), if_neg (by omega), if_neg (by omega)]
 | [y] =>
  rw [frs_bad]
  ·unfold fgo; rw [if_pos (by simp)]
  ·rw [Lib.decodeL_N]; unfold Lib.decodeN
   simp only [List.length_cons, List.length_nil, List.getD_cons_zero]
   rw [if_neg (by omega), if_neg (by omega), if_neg (by omega), if_neg (by omega)]
 | y :: z :: m =>
  have hy := y.toNat_lt
  have hz := z.toNat_lt
  unfold fgo
  rw [if_neg (by simp)]
  simp only [List.tail_cons, Nat.reduceSub, fcl]
  have hd : Lib.decodeL (x :: y :: z :: m) = if y.toNat / 64 = 2 ∧ z.toNat / 64 = 2 then (if 2048 ≤ x.toNat % 16 * 4096 + y.toNat % 64 * 64 + z.toNat % 64 ∧ (x.toNat % 16 * 4096 + y.toNat % 64 * 64 + z.toNat % 64 < 55296 ∨ 57344 ≤ x.toNat % 16 * 4096 + y.toNat % 64 * 64 + z.toNat % 64) then (x.toNat % 16 * 4096 + y.toNat % 64 * 64 + z.toNat % 64, 3) else (65533, 1)) else (65533, 1) := by
   rw [Lib.decodeL_N]; unfold Lib.decodeN
   simp only [List.length_cons, List.getD_cons_zero, List.getD_cons_succ]
   rw [if_neg (by omega), if_neg (by omega)]
   by_cases hq : y.toNat / 64 = 2 ∧ z.toNat / 64 = 2
   ·rw [if_pos ⟨by omega, ⟨by omega, hq.1⟩, by omega, hq.2⟩, if_pos hq]
    by_cases hv : 2048 ≤ x.toNat % 16 * 4096 + y.toNat % 64 * 64 + z.toNat % 64 ∧ (x.toNat % 16 * 4096 + y.toNat % 64 * 64 + z.toNat % 64 < 55296 ∨ 57344 ≤ x.toNat % 16 * 4096 + y.toNat % 64 * 64 + z.toNat % 64)
    ·rw [if_pos ⟨hv.1, by omega⟩, if_pos hv]
    ·rw [if_neg (by omega), if_neg hv]
   ·rw [if_neg (fun e => hq ⟨e.2.1.2, e.2.2.2⟩), if_neg hq, if_neg (by omega)]
  by_cases hb : y.toNat < 128 ∨ 191 < y.toNat
  ·rw [if_pos hb]
   rw [if_neg (by omega)] at hd
   rw [frs_bad hd]
  ·rw [if_neg hb]
   by_cases hb2 : z.toNat < 128 ∨ 191 < z.toNat
   ·rw [if_pos hb2]
    rw [if_neg (by omega)] at hd
    rw [frs_bad hd]
   ·rw [if_neg hb2]
    rw [if_pos (by omega)] at hd
    simp only
    have hc : 64 * (64 * (x.toNat - 224) + y.toNat - 128) + z.toNat - 128 = x.toNat % 16 * 4096 + y.toNat % 64 * 64 + z.toNat % 64 := by omega
    rw [hc]
    generalize hC : x.toNat % 16 * 4096 + y.toNat % 64 * 64 + z.toNat % 64 = C at *
    by_cases hq : 2048 ≤ C ∧ (C < 55296 ∨ 57344 ≤ C)
    ·rw [if_pos hq] at hd
     rw [frs_good (by simp) hd (by omega), fend_good (by unfold bdc; omega)]
     unfold sgn
     rw [if_neg (by omega), if_neg (by omega), if_pos (by omega)]
     simp only [List.take_succ_cons, List.take_zero]
     rw [u8_of (x := x) (by omega), u8_of (x := y) (by omega), u8_of (x := z) (by omega)]
    ·rw [if_neg hq] at hd
     rw [frs_bad hd]
     by_cases hs : 2048 ≤ C
     ·exact fend_bad (.inl (by unfold bdc; omega))
     ·refine fend_bad (.inr fun e => ?_)
      have := congrArg List.length e
      rw [sgn_len] at this
      simp only [List.take_succ_cons, List.take_zero, List.length_cons, List.length_nil] at this
      split at this
      ·omega
      ·rw [if_pos (by omega)] at this; omega
theorem fst_4 {x : UInt8} {m : List UInt8} (h1 : 240 ≤ x.toNat) : fgo 4 (x.toNat - 240) (x :: m) = frs (x :: m) := by
 have hx := x.toNat_lt
 match m with
 | [] =>
  rw [frs_bad]
  ·unfold fgo; rw [if_pos (by simp)]
  ·rw [Lib.decodeL_N]; unfold Lib.decodeN
   simp only [List.length_cons, List.length_nil, List.getD_cons_zero]
   rw [if_neg (by omega), if_neg (by omega), if_neg (by omega), if_neg (by omega)]
 | [y] =>
  rw [frs_bad]
  ·unfold fgo; rw [if_pos (by simp)]
  ·rw [Lib.decodeL_N]; unfold Lib.decodeN
   simp only [List.length_cons, List.length_nil, List.getD_cons_zero]
   rw [if_neg (by omega), if_neg (by omega), if_neg (by omega), if_neg (by omega)]
 | [y, z] =>
  rw [frs_bad]
  ·unfold fgo; rw [if_pos (by simp)]
  ·rw [Lib.decodeL_N]; unfold Lib.decodeN
   simp only [List.length_cons, List.length_nil, List.getD_cons_zero]
   rw [if_neg (by omega), if_neg (by omega), if_neg (by omega), if_neg (by omega)]
 | y :: z :: u :: m =>
  have hy := y.toNat_lt
  have hz := z.toNat_lt
  have hu := u.toNat_lt
  unfold fgo
  rw [if_neg (by simp)]
  simp only [List.tail_cons, Nat.reduceSub, fcl]
  have hd : Lib.decodeL (x :: y :: z :: u :: m) = if x.toNat < 248 ∧ y.toNat / 64 = 2 ∧ z.toNat / 64 = 2 ∧ u.toNat / 64 = 2 then (if 65536 ≤ x.toNat % 8 * 262144 + y.toNat % 64 * 4096 + z.toNat % 64 * 64 + u.toNat % 64 ∧ x.toNat % 8 * 262144 + y.toNat % 64 * 4096 + z.toNat % 64 * 64 + u.toNat % 64 ≤ 1114111 then (x.toNat % 8 * 262144 + y.toNat % 64 * 4096 + z.toNat % 64 * 64 + u.toNat % 64, 4) else (65533, 1)) else (65533, 1) := by
   rw [Lib.decodeL_N]; unfold Lib.decodeN
   simp only [List.length_cons, List.getD_cons_zero, List.getD_cons_succ]
   rw [if_neg (by omega), if_neg (by omega), if_neg (by omega)]
   by_cases hq : x.toNat < 248 ∧ y.toNat / 64 = 2 ∧ z.toNat / 64 = 2 ∧ u.toNat / 64 = 2
   ·obtain ⟨q1, q2, q3, q4⟩ := hq
    rw [if_pos ⟨by omega, ⟨by omega, q2⟩, ⟨by omega, q3⟩, by omega, q4⟩, if_pos (show x.toNat < 248 ∧ y.toNat / 64 = 2 ∧ z.toNat / 64 = 2 ∧ u.toNat / 64 = 2 from ⟨q1, q2, q3, q4⟩)]
    by_cases hv : 65536 ≤ x.toNat % 8 * 262144 + y.toNat % 64 * 4096 + z.toNat % 64 * 64 + u.toNat % 64 ∧ x.toNat % 8 * 262144 + y.toNat % 64 * 4096 + z.toNat % 64 * 64 + u.toNat % 64 ≤ 1114111
    ·rw [if_pos ⟨hv.1, by omega⟩, if_pos hv]
    ·rw [if_neg (by omega), if_neg hv]
   ·rw [if_neg (fun e => hq ⟨by omega, e.2.1.2, e.2.2.1.2, e.2.2.2.2⟩), if_neg hq]
  by_cases hb : y.toNat < 128 ∨ 191 < y.toNat
  ·rw [if_pos hb]
   rw [if_neg (by omega)] at hd
   rw [frs_bad hd]
  ·rw [if_neg hb]
   by_cases hb2 : z.toNat < 128 ∨ 191 < z.toNat
   ·rw [if_pos hb2]
    rw [if_neg (by omega)] at hd
    rw [frs_bad hd]
   ·rw [if_neg hb2]
    by_cases hb3 : u.toNat < 128 ∨ 191 < u.toNat
    ·rw [if_pos hb3]
     rw [if_neg (by omega)] at hd
     rw [frs_bad hd]
    ·rw [if_neg hb3]
     simp only
     by_cases hx8 : x.toNat < 248
     ·rw [if_pos ⟨hx8, by omega, by omega, by omega⟩] at hd
      have hc : 64 * (64 * (64 * (x.toNat - 240) + y.toNat - 128) + z.toNat - 128) + u.toNat - 128 = x.toNat % 8 * 262144 + y.toNat % 64 * 4096 + z.toNat % 64 * 64 + u.toNat % 64 := by omega
      rw [hc]
      generalize hC : x.toNat % 8 * 262144 + y.toNat % 64 * 4096 + z.toNat % 64 * 64 + u.toNat % 64 = C at *
      by_cases hq : 65536 ≤ C ∧ C ≤ 1114111
      ·rw [if_pos hq] at hd
       rw [frs_good (by simp) hd (by omega), fend_good (by unfold bdc; omega)]
       unfold sgn
       rw [if_neg (by omega), if_neg (by omega), if_neg (by omega)]
       simp only [List.take_succ_cons, List.take_zero]
       rw [u8_of (x := x) (by omega), u8_of (x := y) (by omega), u8_of (x := z) (by omega), u8_of (x := u) (by omega)]
      ·rw [if_neg hq] at hd
       rw [frs_bad hd]
       by_cases hs : 65536 ≤ C
       ·exact fend_bad (.inl (by unfold bdc; omega))
       ·refine fend_bad (.inr fun e => ?_)
        have := congrArg List.length e
        rw [sgn_len] at this
        simp only [List.take_succ_cons, List.take_zero, List.length_cons, List.length_nil] at this
        split at this
        ·omega
        ·split at this
         ·omega
         ·rw [if_pos (by omega)] at this; omega
     ·rw [if_neg (by omega)] at hd
      rw [frs_bad hd]
      exact fend_bad (.inl (by unfold bdc; omega))
theorem fst_eq (l : List UInt8) : fstR l = frs l := by
 cases l with
 | nil => rfl
 | cons x m =>
  rw [fst_c]
  by_cases h1 : x.toNat < 128
  ·rw [if_pos h1, frs_good (by simp) (Lib.decodeL_ascii x m h1) (by omega)]
   unfold fgo
   rw [if_neg (by simp)]
   simp only [Nat.sub_self, fcl]
   refine fend_good (by unfold bdc; omega) ?_
   unfold sgn
   rw [if_pos h1]
   simp
  rw [if_neg h1]
  by_cases h2 : x.toNat < 192
  ·rw [if_pos h2, frs_bad]
   rw [Lib.decodeL_N]; unfold Lib.decodeN
   simp only [List.getD_cons_zero]
   rw [if_neg (by omega), if_neg (by omega), if_neg (by omega), if_neg (by omega)]
  rw [if_neg h2]
  by_cases h3 : x.toNat < 224
  ·rw [if_pos h3]; exact fst_2 (by omega) h3
  rw [if_neg h3]
  by_cases h4 : x.toNat < 240
  ·rw [if_pos h4]; exact fst_3 (by omega) h4
  ·rw [if_neg h4]; exact fst_4 (by omega)
theorem BsA.drop {w : World} {b o n cap : Nat} {l : List UInt8} (h : BsA w (.slice (some ⟨b, o, none⟩) n cap) l) (k c : Nat) : BsA w (.slice (some ⟨b, o + k, none⟩) (l.length - k) c) (l.drop k) := by
 obtain ⟨a', cap', e, h⟩ := h
 cases e
 refine ⟨_, c, by rw [List.length_drop], ?_⟩
 rcases h with rfl | ⟨b', o', e, hb, hc⟩
 ·left; simp
 ·cases e
  right
  refine ⟨b, o + k, rfl, hb, fun j x hj => ?_⟩
  rw [List.getElem?_drop] at hj
  have := hc (k + j) x hj
  rwa [← Nat.add_assoc] at this
theorem sl_from {b o n k cap : Nat} (hk : k ≤ n) (w : World) : (Instr.sliceAt 22 (.slice (some ⟨b, o, none⟩) n cap) (some (.int .i64 (k : Nat))) none none).run Tryz.prog w = .ok (.slice (some ⟨b, if cap = k then o else o + k, none⟩) (n - k) (cap - k)) w := by
 by_cases h : cap = k
 ·subst h
  simp [Instr.sliceAt, go_sem, hk]
 ·rw [if_neg h]
  simp [Instr.sliceAt, go_sem, hk]
  omega
structure Tg (sl : Value) (B : List UInt8) (g p : Nat) (bad : Bool) (w : World) : Prop where
 box : w.heap[g]? = some (.cells #[sl, .int .i64 (p : Nat), .bool bad] 60 (0, 0))
 bs : BsA w sl B
 ng : B ≠ [] → ∀ a n c, sl = .slice (some a) n c → a.block ≠ g
 cp : ∀ a n c, sl = .slice a n c → n ≤ c
def nx (B : List UInt8) (p : Nat) : Nat := match B[p]? with
 | some x => x.toNat
 | none => 0
theorem nx_lt (B : List UInt8) (p : Nat) : nx B p < 256 := by
 unfold nx
 split
 ·exact UInt8.toNat_lt _
 ·omega
theorem nx_no {B : List UInt8} {p : Nat} (h : B.length ≤ p) : nx B p = 0 := by unfold nx; rw [List.getElem?_eq_none h]
theorem nx_drop {B : List UInt8} {p : Nat} {x : UInt8} {m : List UInt8} (h : B.drop p = x :: m) : nx B p = x.toNat := by
 unfold nx
 have : B[p]? = some x := by
  have h1 : (B.drop p)[0]? = some x := by rw [h]; rfl
  rwa [List.getElem?_drop, Nat.add_zero] at h1
 rw [this]
theorem drop_lt {B : List UInt8} {p : Nat} {x : UInt8} {m : List UInt8} (h : B.drop p = x :: m) : p < B.length ∧ B.drop (p + 1) = m := by
 constructor
 ·have := congrArg List.length h
  rw [List.length_drop, List.length_cons] at this
  omega
 ·rw [← List.drop_drop, h]; rfl
theorem BsA.same {w w' : World} {v : Value} {l : List UInt8} (h : BsA w v l) (hs : w.heap.size ≤ w'.heap.size) (hk : l ≠ [] → ∀ a n c, v = .slice (some a) n c → a.block < w.heap.size → w'.heap[a.block]? = w.heap[a.block]?) : BsA w' v l := by
 by_cases hl : l = []
 ·obtain ⟨a, cap, rfl, _⟩ := h
  exact ⟨a, cap, rfl, .inl hl⟩
 replace hk := hk hl
 obtain ⟨a, cap, rfl, h | ⟨b, o, rfl, hb, hc⟩⟩ := h
 ·exact absurd h hl
 ·exact ⟨_, cap, rfl, .inr ⟨b, o, rfl, by omega, fun j x hj => by
  rw [World.cell?_of_block (a := ⟨b, o + j, none⟩) (w := w) (hk ⟨b, o, none⟩ _ _ rfl hb)]; exact hc j x hj⟩⟩
section
variable {sl : Value} {B : List UInt8} {g p : Nat} {bad : Bool} {w w' : World}
theorem Tg.lt (h : Tg sl B g p bad w) : g < w.heap.size := (Array.getElem?_eq_some_iff.1 h.box).1
theorem Tg.c0 (h : Tg sl B g p bad w) : w.cell? ⟨g, 0, none⟩ = some sl := by simp [World.cell?, h.box]
theorem Tg.c1 (h : Tg sl B g p bad w) : w.cell? ⟨g, 1, none⟩ = some (.int .i64 (p : Nat)) := by simp [World.cell?, h.box]
theorem Tg.c2 (h : Tg sl B g p bad w) : w.cell? ⟨g, 2, none⟩ = some (.bool bad) := by simp [World.cell?, h.box]
theorem Tg.fr (h : Tg sl B g p bad w) (k : Nat) : w.frozen? ⟨g, k, none⟩ = false := by simp [World.frozen?, h.box]
theorem Tg.kept (h : Tg sl B g p bad w) (hs : w.heap.size ≤ w'.heap.size) (hk : ∀ k, k < w.heap.size → w'.heap[k]? = w.heap[k]?) : Tg sl B g p bad w' :=
 ⟨(hk g h.lt).trans h.box, h.bs.same hs fun _ _ _ _ _ ha => hk _ ha, h.ng, h.cp⟩
theorem Tg.later (h : Tg sl B g p bad w) (hb : Below w.heap.size w w') : Tg sl B g p bad w' := h.kept hb.size hb.block
theorem Tg.row {q : Nat} {bad' : Bool} (h : Tg sl B g p bad w) : Tg sl B g q bad' (w.setRow g #[sl, .int .i64 (q : Nat), .bool bad']) :=
 ⟨setRow_heap w g _ _ _ _ h.box, h.bs.same (by simp [World.setRow]) fun hl a n c e _ => setRow_other w g _ _ (h.ng hl a n c e), h.ng, h.cp⟩
theorem Tg.set1 (h : Tg sl B g p bad w) (q : Nat) : Tg sl B g q bad (w.setCell ⟨g, 1, none⟩ (.int .i64 (q : Nat))) ∧ Kg g w (w.setCell ⟨g, 1, none⟩ (.int .i64 (q : Nat))) := by
 have e : w.setCell ⟨g, 1, none⟩ (.int .i64 (q : Nat)) = w.setRow g #[sl, .int .i64 (q : Nat), .bool bad] := by
  rw [setCell_eq_setRow w g 1 _ _ (0, 0) _ h.box]; rfl
 rw [e]
 exact ⟨h.row, Kg.row _⟩
theorem Tg.set1p (h : Tg sl B g p bad w) : Tg sl B g (p + 1) bad (w.setCell ⟨g, 1, none⟩ (.int .i64 (((p : Nat) : Int) + 1))) ∧ Kg g w (w.setCell ⟨g, 1, none⟩ (.int .i64 (((p : Nat) : Int) + 1))) := h.set1 (p + 1)
theorem Tg.set2 (h : Tg sl B g p bad w) (q : Bool) : Tg sl B g p q (w.setCell ⟨g, 2, none⟩ (.bool q)) ∧ Kg g w (w.setCell ⟨g, 2, none⟩ (.bool q)) := by
 have e : w.setCell ⟨g, 2, none⟩ (.bool q) = w.setRow g #[sl, .int .i64 (p : Nat), .bool q] := by
  rw [setCell_eq_setRow w g 2 _ _ (0, 0) _ h.box]; rfl
 rw [e]
 exact ⟨h.row, Kg.row _⟩
set_option maxHeartbeats 4000000 in
set_option maxRecDepth 100000 in
theorem next_t (h : Tg sl B g p bad w) : Calls Tryz.prog 47 #[.pointer (some ⟨g, 0, none⟩)] w fun e w' => e = .returned (.int .i64 (nx B p : Nat)) ∧ Below w.heap.size w w' := by
 have c0 := h.c0
 have c1 := h.c1
 obtain ⟨a, cap, rfl, hc⟩ := h.bs
 by_cases hp : p < B.length
 ·obtain ⟨x, hx⟩ : ∃ x, B[p]? = some x := ⟨_, List.getElem?_eq_getElem hp⟩
  obtain ⟨b, o, rfl, -, hcc⟩ := hc.resolve_left (fun e => by rw [e] at hp; cases hp)
  have hcx := hcc p x hx
  have hn : nx B p = x.toNat := by unfold nx; rw [hx]
  have hn2 := UInt8.toNat_lt x
  rw [hn]
  clear hn hx hcc hc h
  generalize x.toNat = y at *
  replace hn2 : y < 256 := hn2
  go_enter Tryz.func47, Tryz.ntmps47
  go_wp2_with fail
  go_quiet (fail)
  go_wp2_with fail
  go_quiet (fail)
  go_wp2
  go_ret
  exact ⟨rfl, rfl, rfl, rfl, Nat.le_refl _, fun _ _ => rfl⟩
 ·rw [nx_no (by omega)]
  clear hc h
  go_enter Tryz.func47, Tryz.ntmps47
  go_wp2_with fail
  go_quiet (fail)
  go_wp2
  go_ret
  exact ⟨rfl, rfl, rfl, rfl, Nat.le_refl _, fun _ _ => rfl⟩
end
def atOf (g : Nat) (w : World) : Nat := match w.cell? ⟨g, 1, none⟩ with
 | some (.int _ i) => i.toNat
 | _ => 0
section
variable {sl : Value} {B : List UInt8} {g p : Nat} {bad : Bool} {w w' : World}
theorem Tg.atOf (h : Tg sl B g p bad w) : atOf g w = p := by
 unfold Go.Proofs.YtbemaloaobeblaaGreatDoor.atOf
 rw [h.c1]; simp
theorem nx_pos {c : Nat} (h : nx B p = c) (hc : c ≠ 0) : ∃ x m, B.drop p = x :: m ∧ x.toNat = c ∧ p < B.length := by
 rcases Nat.lt_or_ge p B.length with hp | hp
 ·refine ⟨B[p], B.drop (p + 1), List.drop_eq_getElem_cons hp, ?_, hp⟩
  rw [← h]; unfold nx; rw [List.getElem?_eq_getElem hp]
 ·rw [nx_no hp] at h; omega
theorem sk_cons {x : UInt8} {m : List UInt8} (h : x.toNat = 32 ∨ x.toNat = 9 ∨ x.toNat = 10 ∨ x.toNat = 13) : sk (x :: m) = sk m := by
 have : bk.contains x = true := by
  have e : ∀ k : UInt8, x.toNat = k.toNat → x = k := fun k hk => UInt8.toNat_inj.1 hk
  rcases h with h | h | h | h
  ·rw [e 32 h]; rfl
  ·rw [e 9 h]; rfl
  ·rw [e 10 h]; rfl
  ·rw [e 13 h]; rfl
 unfold sk
 rw [List.dropWhile_cons, if_pos this]
theorem sk_stop (h : nx B p ≠ 32 ∧ nx B p ≠ 9 ∧ nx B p ≠ 10 ∧ nx B p ≠ 13) : sk (B.drop p) = B.drop p := by
 cases e : B.drop p with
 | nil => rfl
 | cons x m =>
  rw [nx_drop e] at h
  have : bk.contains x = false := by
   unfold bk
   simp only [List.contains_cons, List.contains_nil, Bool.or_false, Bool.or_eq_false_iff, beq_eq_false_iff_ne]
   refine ⟨?_, ?_, ?_, ?_⟩ <;> (rintro rfl; simp at h)
  unfold sk
  rw [List.dropWhile_cons, this]
  rfl
def AnB (sl : Value) (B : List UInt8) (g p : Nat) (bad : Bool) (w : World) (e : Ending) (w' : World) : Prop :=
 e = .returned (.tuple #[]) ∧ ∃ q, Tg sl B g q bad w' ∧ Kg g w w' ∧ B.drop q = sk (B.drop p) ∧ p ≤ q ∧ (q = p ∨ q ≤ B.length)
set_option maxHeartbeats 4000000 in
set_option maxRecDepth 100000 in
theorem blanks_t (h : Tg sl B g p bad w) (hp : p ≤ 100000) (hB : B.length ≤ 4096) : Calls Tryz.prog 33 #[.pointer (some ⟨g, 0, none⟩)] w (AnB sl B g p bad w) := by
 go_enter Tryz.func33, Tryz.ntmps33
 go_wp2_with fail
 go_loopw [] (fun wr => ∃ q, Hid (Tg sl B g q bad wr) ∧ Hid (Kg g w wr) ∧ Hid (sk (B.drop q) = sk (B.drop p)) ∧ p ≤ q ∧ (q = p ∨ q ≤ B.length)) (fun wr => B.length - atOf g wr)
 case atStart => exact ⟨p, hide1 h, hide1 (Kg.refl _ _), hide1 rfl, Nat.le_refl _, .inl rfl⟩
 case round =>
  obtain ⟨q, hT, hK, hsk, hpq, hqq⟩ := hrel
  have hat : atOf g wr = q := hT.out.atOf
  have hn := next_t hT.out
  obtain ⟨c, hc⟩ : ∃ c, Hid (nx B q = c) := ⟨_, hide1 rfl⟩
  have hstep : c = 32 ∨ c = 9 ∨ c = 10 ∨ c = 13 → ∀ wx, Below wr.heap.size wr wx → Hid (Tg sl B g (q + 1) bad (wx.setCell ⟨g, 1, none⟩ (.int .i64 (((q : Nat) : Int) + 1))) ∧ Kg g w (wx.setCell ⟨g, 1, none⟩ (.int .i64 (((q : Nat) : Int) + 1))) ∧ sk (B.drop (q + 1)) = sk (B.drop p) ∧ q < B.length) := fun h4 wx hb => hide1 (by
   obtain ⟨x, m, e1, e2, e3⟩ := nx_pos hc.out (by omega)
   obtain ⟨t1, k1⟩ := (hT.out.later hb).set1p
   refine ⟨t1, (hK.out.trans (Kg.of hb)).trans k1, ?_, e3⟩
   rw [← hsk.out, (drop_lt e1).2, e1, sk_cons (by omega)])
  replace hstep := hide1 hstep
  have hstop : c ≠ 32 ∧ c ≠ 9 ∧ c ≠ 10 ∧ c ≠ 13 → ∀ wx, Below wr.heap.size wr wx → Hid (AnB sl B g p bad w (.returned (.tuple #[])) wx) := fun h4 wx hb => hide1 ⟨rfl, q, hT.out.later hb, hK.out.trans (Kg.of hb), by rw [← hsk.out]; exact (sk_stop (by rw [hc.out]; exact h4)).symm, hpq, hqq⟩
  replace hstop := hide1 hstop
  have hnn : Hid (∀ wx, Below wr.heap.size wr wx → Calls Tryz.prog 47 #[.pointer (some ⟨g, 0, none⟩)] wx fun e w' => e = .returned (.int .i64 (c : Nat)) ∧ Below wx.heap.size wx w') := hide1 fun wx hb => by
   have := next_t (hT.out.later hb)
   rwa [hc.out] at this
  clear hn
  have hcl : c < 256 := by rw [← hc.out]; exact nx_lt B q
  have hq2 : q ≤ 110000 := by omega
  clear hc hsk h
  by_cases h32 : c = 32
  ·subst h32
   go_wp2_with fail
   refine (hnn.out _ (Below.refl _ _)).mono ?_
   rintro e w1 ⟨rfl, b1⟩
   have hb1 := hide1 (b1)
   clear b1
   have hT2 := hT.out.later hb1.out
   have cc := hT2.c1
   have cf := hT2.fr 1
   have hs2 := hstep.out (by first | omega | simp | trivial) _ hb1.out
   clear hT2 hnn hstep hstop hb1
   go_wp2
   go_roundw
   case rel => exact ⟨q + 1, hide1 hs2.out.1, hide1 hs2.out.2.1, hide1 hs2.out.2.2.1, by omega, by have := hs2.out.2.2.2; omega⟩
   case measure => rw [hs2.out.1.atOf, hat]; have := hs2.out.2.2.2; omega
  have d32 : ((c : Int) == 32) = false := by simp; omega
  by_cases h9 : c = 9
  ·subst h9
   go_wp2_with fail
   refine (hnn.out _ (Below.refl _ _)).mono ?_
   rintro e w1 ⟨rfl, b1⟩
   have hb1 := hide1 (b1)
   clear b1
   go_wp2_with fail
   refine (hnn.out _ hb1.out).mono ?_
   rintro e w2 ⟨rfl, b2⟩
   have hb2 := hide1 (hb1.out.trans (b2.mono hb1.out.size))
   clear b2 hb1
   have hT2 := hT.out.later hb2.out
   have cc := hT2.c1
   have cf := hT2.fr 1
   have hs2 := hstep.out (by first | omega | simp | trivial) _ hb2.out
   clear hT2 hnn hstep hstop hb2
   go_wp2
   go_roundw
   case rel => exact ⟨q + 1, hide1 hs2.out.1, hide1 hs2.out.2.1, hide1 hs2.out.2.2.1, by omega, by have := hs2.out.2.2.2; omega⟩
   case measure => rw [hs2.out.1.atOf, hat]; have := hs2.out.2.2.2; omega
  have d9 : ((c : Int) == 9) = false := by simp; omega
  by_cases h10 : c = 10
  ·subst h10
   go_wp2_with fail
   refine (hnn.out _ (Below.refl _ _)).mono ?_
   rintro e w1 ⟨rfl, b1⟩
   have hb1 := hide1 (b1)
   clear b1
   go_wp2_with fail
   refine (hnn.out _ hb1.out).mono ?_
   rintro e w2 ⟨rfl, b2⟩
   have hb2 := hide1 (hb1.out.trans (b2.mono hb1.out.size))
   clear b2 hb1
   go_wp2_with fail
   refine (hnn.out _ hb2.out).mono ?_
   rintro e w3 ⟨rfl, b3⟩
   have hb3 := hide1 (hb2.out.trans (b3.mono hb2.out.size))
   clear b3 hb2
   have hT2 := hT.out.later hb3.out
   have cc := hT2.c1
   have cf := hT2.fr 1
   have hs2 := hstep.out (by first | omega | simp | trivial) _ hb3.out
   clear hT2 hnn hstep hstop hb3
   go_wp2
   go_roundw
   case rel => exact ⟨q + 1, hide1 hs2.out.1, hide1 hs2.out.2.1, hide1 hs2.out.2.2.1, by omega, by have := hs2.out.2.2.2; omega⟩
   case measure => rw [hs2.out.1.atOf, hat]; have := hs2.out.2.2.2; omega
  have d10 : ((c : Int) == 10) = false := by simp; omega
  by_cases h13 : c = 13
  ·subst h13
   go_wp2_with fail
   refine (hnn.out _ (Below.refl _ _)).mono ?_
   rintro e w1 ⟨rfl, b1⟩
   have hb1 := hide1 (b1)
   clear b1
   go_wp2_with fail
   refine (hnn.out _ hb1.out).mono ?_
   rintro e w2 ⟨rfl, b2⟩
   have hb2 := hide1 (hb1.out.trans (b2.mono hb1.out.size))
   clear b2 hb1
   go_wp2_with fail
   refine (hnn.out _ hb2.out).mono ?_
   rintro e w3 ⟨rfl, b3⟩
   have hb3 := hide1 (hb2.out.trans (b3.mono hb2.out.size))
   clear b3 hb2
   go_wp2_with fail
   refine (hnn.out _ hb3.out).mono ?_
   rintro e w4 ⟨rfl, b4⟩
   have hb4 := hide1 (hb3.out.trans (b4.mono hb3.out.size))
   clear b4 hb3
   have hT2 := hT.out.later hb4.out
   have cc := hT2.c1
   have cf := hT2.fr 1
   have hs2 := hstep.out (by first | omega | simp | trivial) _ hb4.out
   clear hT2 hnn hstep hstop hb4
   go_wp2
   go_roundw
   case rel => exact ⟨q + 1, hide1 hs2.out.1, hide1 hs2.out.2.1, hide1 hs2.out.2.2.1, by omega, by have := hs2.out.2.2.2; omega⟩
   case measure => rw [hs2.out.1.atOf, hat]; have := hs2.out.2.2.2; omega
  have d13 : ((c : Int) == 13) = false := by simp; omega
  go_wp2_with fail
  refine (hnn.out _ (Below.refl _ _)).mono ?_
  rintro e w1 ⟨rfl, b1⟩
  have hb1 := hide1 (b1)
  clear b1
  go_wp2_with fail
  refine (hnn.out _ hb1.out).mono ?_
  rintro e w2 ⟨rfl, b2⟩
  have hb2 := hide1 (hb1.out.trans (b2.mono hb1.out.size))
  clear b2 hb1
  go_wp2_with fail
  refine (hnn.out _ hb2.out).mono ?_
  rintro e w3 ⟨rfl, b3⟩
  have hb3 := hide1 (hb2.out.trans (b3.mono hb2.out.size))
  clear b3 hb2
  go_wp2_with fail
  refine (hnn.out _ hb3.out).mono ?_
  rintro e w4 ⟨rfl, b4⟩
  have hb4 := hide1 (hb3.out.trans (b4.mono hb3.out.size))
  clear b4 hb3
  have hf := hstop.out ⟨h32, h9, h10, h13⟩ _ hb4.out
  clear hnn hstep hstop hb4
  go_wp2
  exact bodyPost_end (results_none rfl _ _ _) rfl hf.out
end
theorem ld_gi {w : World} {q : Addr} {v : Value} (h : w.cell? q = some v) : (Instr.loadAt 3 (.pointer (some q))).run Tryz.prog w = .ok v w := by
 simp [Instr.loadAt, Instr.sureAddr, go_sem, h]
theorem ld_gs {w : World} {q : Addr} {v : Value} (h : w.cell? q = some v) : (Instr.loadAt 22 (.pointer (some q))).run Tryz.prog w = .ok v w := by
 simp [Instr.loadAt, Instr.sureAddr, go_sem, h]
theorem len_st {s : List UInt8} (w : World) : (Builtin.len_ #[9] 3 #[.string (st s)]).run Tryz.prog w = .ok (.int .i64 (s.length : Nat)) w := by
 simp [Builtin.len_, go_sem, st_size]
theorem len_bs {a : Option Addr} {n cap : Nat} (w : World) : (Builtin.len_ #[22] 3 #[.slice a n cap]).run Tryz.prog w = .ok (.int .i64 (n : Nat)) w := by
 simp [Builtin.len_, go_sem]
theorem ad_nn {m n : Nat} (h : m + n ≤ 1000000) (w : World) : (binOp .add 3 (.int .i64 (m : Nat)) (.int .i64 (n : Nat))).run Tryz.prog w = .ok (.int .i64 (m + n : Nat)) w := by
 have : IntKind.i64.wrap ((m : Int) + (n : Int)) = ((m + n : Nat) : Int) := by rw [IntKind.wrap_i64]; omega
 simp [binOp, go_sem, this]
theorem eg_nn {op : BinOp} {x u : Operand} {m n : Int} (w : World) : (eqGuard op 3 x u (.int .i64 m) (.int .i64 n)).run Tryz.prog w = .ok () w := by
 simp [eqGuard, go_sem]
theorem gt_nn {m n : Nat} (w : World) : (binOp .gtr 3 (.int .i64 (m : Nat)) (.int .i64 (n : Nat))).run Tryz.prog w = .ok (.bool (decide (n < m))) w := by
 simp [binOp, go_sem]
theorem sl_md {b o n p k cap : Nat} (hk : 0 < k) (h : p + k ≤ cap) (w : World) : (Instr.sliceAt 22 (.slice (some ⟨b, o, none⟩) n cap) (some (.int .i64 (p : Nat))) (some (.int .i64 (p + k : Nat))) none).run Tryz.prog w = .ok (.slice (some ⟨b, o + p, none⟩) k (cap - p)) w := by
 have h1 : ¬ cap = p := by omega
 have h2 : p ≤ p + k := by omega
 have h3 : (p : Int) ≤ (p : Int) + (k : Int) := by omega
 have h4 : (p : Int) + (k : Int) ≤ (cap : Int) := by omega
 have h5 : p + k - p = k := by omega
 have h6 : ((p : Int) + (k : Int)).toNat = p + k := by omega
 have h7 : (0 : Int) ≤ (p : Int) + (k : Int) := by omega
 simp [Instr.sliceAt, go_sem, h1, h4, h6, h7]
section
variable {sl : Value} {B : List UInt8} {g p : Nat} {bad : Bool} {w w' : World}
theorem hp_take {s l : List UInt8} : hp s l = decide (l.take s.length = s) := by
 unfold hp
 cases h : s.isPrefixOf l with
 | true =>
  have := (List.isPrefixOf_iff_prefix.1 h)
  rw [List.prefix_iff_eq_take] at this
  simp [← this]
 | false =>
  symm
  rw [decide_eq_false_iff_not]
  intro e
  have : s <+: l := by rw [← e]; exact List.take_prefix _ _
  rw [List.isPrefixOf_iff_prefix.2 this] at h
  cases h
def AnWd (sl : Value) (B : List UInt8) (g p : Nat) (bad : Bool) (s : List UInt8) (w : World) (e : Ending) (w' : World) : Prop :=
 e = .returned (.tuple #[]) ∧ Tg sl B g (if hp s (B.drop p) = true then p + s.length else p) (bad || !hp s (B.drop p)) w' ∧ Kg g w w'
set_option maxHeartbeats 8000000 in
set_option maxRecDepth 100000 in
theorem word_t {s : List UInt8} (h : Tg sl B g p bad w) (hpp : p ≤ 100000) (hB : B.length ≤ 4096) (hs : 0 < s.length) (hs2 : s.length ≤ 100) : Calls Tryz.prog 48 #[.pointer (some ⟨g, 0, none⟩), .string (st s)] w (AnWd sl B g p bad s w) := by
 obtain ⟨aa, cap, rfl, hbs⟩ := h.bs
 have hTa : Hid (∀ wa, Below w.heap.size w wa → Tg (.slice aa B.length cap) B g p bad wa) := hide1 fun wa hb => h.later hb
 have hcap := h.cp _ _ _ rfl
 have hsum : p + s.length ≤ 1000000 := by omega
 have hfalse : hp s (B.drop p) = false → ∀ wx, Below w.heap.size w wx → Hid (wx.cell? ⟨g, 2, none⟩ = some (.bool bad) ∧ wx.frozen? ⟨g, 2, none⟩ = false ∧ AnWd (.slice aa B.length cap) B g p bad s w (.returned (.tuple #[])) (wx.setCell ⟨g, 2, none⟩ (.bool true))) := fun e wx hb => hide1 (by
  obtain ⟨t, k⟩ := (hTa.out wx hb).set2 true
  exact ⟨(hTa.out wx hb).c2, (hTa.out wx hb).fr 2, rfl, by rw [e]; simpa using t, (Kg.of hb).trans k⟩)
 by_cases hl : B.length < p + s.length
 ·have hf := hfalse (by
   rw [hp_take, decide_eq_false_iff_not]
   intro e
   have := congrArg List.length e
   rw [List.length_take, List.length_drop] at this
   omega)
  replace hf := hide1 hf
  clear hfalse hbs h hs hs2 hpp
  go_enter Tryz.func48, Tryz.ntmps48
  go_upto_region 0 with fail
  refine wp_flowG 33 _ _ (by kernel_rfl) (by kernel_rfl) (by kernel_rfl) rfl (fun j v _ => v = ([(.pointer (some ⟨g, 0, none⟩)), (.pointer (some ⟨g, 0, none⟩)), (.pointer (some ⟨g, 1, none⟩)), (.int .i64 (p : Nat)), (.string (st s)), (.int .i64 (s.length : Nat)), (.int .i64 (p + s.length : Nat)), (.pointer (some ⟨g, 0, none⟩)), (.pointer (some ⟨g, 0, none⟩)), (.pointer (some ⟨g, 0, none⟩)), (.slice aa B.length cap), (.int .i64 (B.length : Nat)), (.bool true), (.bool true), undef, undef, undef, undef, undef, undef, undef, undef, undef, undef, undef, undef, undef, undef, undef, undef, undef, undef, undef, (.bool true)] : List Value).getD j undef) (fun _ _ _ _ h _ => h) ?_ ?_
  ·intro j op hop hj a wa hwa hsz hsl hdep K hK
   match j, hop with
   | 0, hop =>
    obtain rfl := Option.some.inj hop
    have p0 : a.tmps.getD 0 undef = (.pointer (some ⟨g, 0, none⟩)) := hsl 0 rfl
    exact .plain rfl (wp_val (w' := wa) (v := (.pointer (some ⟨g, 0, none⟩))) (by simp only [execOp, Act.eval]; rw [show a.tmps.getD 0 undef = _ from p0]; rfl) (hK _ _ (Below.refl _ _) rfl))
   | 1, hop =>
    obtain rfl := Option.some.inj hop
    have t0 : a.tmps.getD 4 undef = (.pointer (some ⟨g, 0, none⟩)) := hdep 0 _ 4 rfl rfl ⟨⟨0, .data⟩, by simp, rfl, rfl⟩
    exact .plain rfl (wp_val (w' := wa) (v := (.pointer (some ⟨g, 0, none⟩))) (by simp only [execOp, Act.eval]; rw [show a.tmps.getD 4 undef = _ from t0]; kernel_rfl) (hK _ _ (Below.refl _ _) rfl))
   | 2, hop =>
    obtain rfl := Option.some.inj hop
    have t1 : a.tmps.getD 5 undef = (.pointer (some ⟨g, 0, none⟩)) := hdep 1 _ 5 rfl rfl ⟨⟨1, .data⟩, by simp, rfl, rfl⟩
    exact .plain rfl (wp_val (w' := wa) (v := (.pointer (some ⟨g, 1, none⟩))) (by simp only [execOp, Act.eval]; rw [show a.tmps.getD 5 undef = _ from t1]; kernel_rfl) (hK _ _ (Below.refl _ _) rfl))
   | 3, hop =>
    obtain rfl := Option.some.inj hop
    have t2 : a.tmps.getD 6 undef = (.pointer (some ⟨g, 1, none⟩)) := hdep 2 _ 6 rfl rfl ⟨⟨2, .data⟩, by simp, rfl, rfl⟩
    exact .plain rfl (wp_val (w' := wa) (v := (.int .i64 (p : Nat))) (by simp only [execOp, Act.eval]; rw [show a.tmps.getD 6 undef = _ from t2]; simp only [Sem.run_bind, ld_gi (hTa.out wa hwa).c1, Result.andThen_ok, Sem.run_pure]) (hK _ _ (Below.refl _ _) rfl))
   | 4, hop =>
    obtain rfl := Option.some.inj hop
    have p1 : a.tmps.getD 1 undef = (.string (st s)) := hsl 1 rfl
    exact .plain rfl (wp_val (w' := wa) (v := (.string (st s))) (by simp only [execOp, Act.eval]; rw [show a.tmps.getD 1 undef = _ from p1]; rfl) (hK _ _ (Below.refl _ _) rfl))
   | 5, hop =>
    obtain rfl := Option.some.inj hop
    have t4 : a.tmps.getD 8 undef = (.string (st s)) := hdep 4 _ 8 rfl rfl ⟨⟨4, .data⟩, by simp, rfl, rfl⟩
    exact .plain rfl (wp_val (w' := wa) (v := (.int .i64 (s.length : Nat))) (by simp only [execOp, Act.eval, resolve, invoke, builtin, List.map_toArray, List.map_cons, List.map_nil, Sem.run_pure, Result.andThen_ok, Sem.run_bind]; rw [show a.tmps.getD 8 undef = _ from t4]; simp only [len_st, Result.andThen_ok]) (hK _ _ (Below.refl _ _) rfl))
   | 6, hop =>
    obtain rfl := Option.some.inj hop
    have t3 : a.tmps.getD 7 undef = (.int .i64 (p : Nat)) := hdep 3 _ 7 rfl rfl ⟨⟨3, .data⟩, by simp, rfl, rfl⟩
    have t5 : a.tmps.getD 9 undef = (.int .i64 (s.length : Nat)) := hdep 5 _ 9 rfl rfl ⟨⟨5, .data⟩, by simp, rfl, rfl⟩
    exact .plain rfl (wp_val (w' := wa) (v := (.int .i64 (p + s.length : Nat))) (by simp only [execOp, Act.eval]; rw [show a.tmps.getD 7 undef = _ from t3, show a.tmps.getD 9 undef = _ from t5]; simp only [Sem.run_bind, eg_nn, ad_nn hsum, Result.andThen_ok, Sem.run_pure]) (hK _ _ (Below.refl _ _) rfl))
   | 7, hop =>
    obtain rfl := Option.some.inj hop
    have p0 : a.tmps.getD 0 undef = (.pointer (some ⟨g, 0, none⟩)) := hsl 0 rfl
    exact .plain rfl (wp_val (w' := wa) (v := (.pointer (some ⟨g, 0, none⟩))) (by simp only [execOp, Act.eval]; rw [show a.tmps.getD 0 undef = _ from p0]; rfl) (hK _ _ (Below.refl _ _) rfl))
   | 8, hop =>
    obtain rfl := Option.some.inj hop
    have t7 : a.tmps.getD 11 undef = (.pointer (some ⟨g, 0, none⟩)) := hdep 7 _ 11 rfl rfl ⟨⟨7, .data⟩, by simp, rfl, rfl⟩
    exact .plain rfl (wp_val (w' := wa) (v := (.pointer (some ⟨g, 0, none⟩))) (by simp only [execOp, Act.eval]; rw [show a.tmps.getD 11 undef = _ from t7]; kernel_rfl) (hK _ _ (Below.refl _ _) rfl))
   | 9, hop =>
    obtain rfl := Option.some.inj hop
    have t8 : a.tmps.getD 12 undef = (.pointer (some ⟨g, 0, none⟩)) := hdep 8 _ 12 rfl rfl ⟨⟨8, .data⟩, by simp, rfl, rfl⟩
    exact .plain rfl (wp_val (w' := wa) (v := (.pointer (some ⟨g, 0, none⟩))) (by simp only [execOp, Act.eval]; rw [show a.tmps.getD 12 undef = _ from t8]; kernel_rfl) (hK _ _ (Below.refl _ _) rfl))
   | 10, hop =>
    obtain rfl := Option.some.inj hop
    have t9 : a.tmps.getD 13 undef = (.pointer (some ⟨g, 0, none⟩)) := hdep 9 _ 13 rfl rfl ⟨⟨9, .data⟩, by simp, rfl, rfl⟩
    exact .plain rfl (wp_val (w' := wa) (v := (.slice aa B.length cap)) (by simp only [execOp, Act.eval]; rw [show a.tmps.getD 13 undef = _ from t9]; simp only [Sem.run_bind, ld_gs (hTa.out wa hwa).c0, Result.andThen_ok, Sem.run_pure]) (hK _ _ (Below.refl _ _) rfl))
   | 11, hop =>
    obtain rfl := Option.some.inj hop
    have t10 : a.tmps.getD 14 undef = (.slice aa B.length cap) := hdep 10 _ 14 rfl rfl ⟨⟨10, .data⟩, by simp, rfl, rfl⟩
    exact .plain rfl (wp_val (w' := wa) (v := (.int .i64 (B.length : Nat))) (by simp only [execOp, Act.eval, resolve, invoke, builtin, List.map_toArray, List.map_cons, List.map_nil, Sem.run_pure, Result.andThen_ok, Sem.run_bind]; rw [show a.tmps.getD 14 undef = _ from t10]; simp only [len_bs, Result.andThen_ok]) (hK _ _ (Below.refl _ _) rfl))
   | 12, hop =>
    obtain rfl := Option.some.inj hop
    have t6 : a.tmps.getD 10 undef = (.int .i64 (p + s.length : Nat)) := hdep 6 _ 10 rfl rfl ⟨⟨6, .data⟩, by simp, rfl, rfl⟩
    have t11 : a.tmps.getD 15 undef = (.int .i64 (B.length : Nat)) := hdep 11 _ 15 rfl rfl ⟨⟨11, .data⟩, by simp, rfl, rfl⟩
    exact .plain rfl (wp_val (w' := wa) (v := (.bool true)) (by simp only [execOp, Act.eval]; rw [show a.tmps.getD 10 undef = _ from t6, show a.tmps.getD 15 undef = _ from t11]; simp only [Sem.run_bind, eg_nn, gt_nn, decide_eq_true hl, Result.andThen_ok, Sem.run_pure]) (hK _ _ (Below.refl _ _) rfl))
   | 13, hop =>
    obtain rfl := Option.some.inj hop
    have t12 : a.tmps.getD 16 undef = (.bool true) := hdep 12 _ 16 rfl rfl ⟨⟨12, .data⟩, by simp, rfl, rfl⟩
    exact .plain rfl (wp_val (w' := wa) (v := (.bool true)) (by simp only [execOp, Act.eval]; rw [show a.tmps.getD 16 undef = _ from t12]; rfl) (hK _ _ (Below.refl _ _) rfl))
   | 14, hop =>
    obtain rfl := Option.some.inj hop
    have gg : a.tmps.getD 17 undef = (.bool true) := hdep 13 _ 17 rfl rfl ⟨⟨13, .guard⟩, by simp, rfl, rfl⟩
    exact .skip rfl rfl (by rw [hsz]; simp) gg (hK _ _ (Below.refl _ _) rfl)
   | 15, hop =>
    obtain rfl := Option.some.inj hop
    have gg : a.tmps.getD 17 undef = (.bool true) := hdep 13 _ 17 rfl rfl ⟨⟨13, .guard⟩, by simp, rfl, rfl⟩
    exact .skip rfl rfl (by rw [hsz]; simp) gg (hK _ _ (Below.refl _ _) rfl)
   | 16, hop =>
    obtain rfl := Option.some.inj hop
    have gg : a.tmps.getD 17 undef = (.bool true) := hdep 13 _ 17 rfl rfl ⟨⟨13, .guard⟩, by simp, rfl, rfl⟩
    exact .skip rfl rfl (by rw [hsz]; simp) gg (hK _ _ (Below.refl _ _) rfl)
   | 17, hop =>
    obtain rfl := Option.some.inj hop
    have gg : a.tmps.getD 17 undef = (.bool true) := hdep 13 _ 17 rfl rfl ⟨⟨13, .guard⟩, by simp, rfl, rfl⟩
    exact .skip rfl rfl (by rw [hsz]; simp) gg (hK _ _ (Below.refl _ _) rfl)
   | 18, hop =>
    obtain rfl := Option.some.inj hop
    have gg : a.tmps.getD 17 undef = (.bool true) := hdep 13 _ 17 rfl rfl ⟨⟨13, .guard⟩, by simp, rfl, rfl⟩
    exact .skip rfl rfl (by rw [hsz]; simp) gg (hK _ _ (Below.refl _ _) rfl)
   | 19, hop =>
    obtain rfl := Option.some.inj hop
    have gg : a.tmps.getD 17 undef = (.bool true) := hdep 13 _ 17 rfl rfl ⟨⟨13, .guard⟩, by simp, rfl, rfl⟩
    exact .skip rfl rfl (by rw [hsz]; simp) gg (hK _ _ (Below.refl _ _) rfl)
   | 20, hop =>
    obtain rfl := Option.some.inj hop
    have gg : a.tmps.getD 17 undef = (.bool true) := hdep 13 _ 17 rfl rfl ⟨⟨13, .guard⟩, by simp, rfl, rfl⟩
    exact .skip rfl rfl (by rw [hsz]; simp) gg (hK _ _ (Below.refl _ _) rfl)
   | 21, hop =>
    obtain rfl := Option.some.inj hop
    have gg : a.tmps.getD 17 undef = (.bool true) := hdep 13 _ 17 rfl rfl ⟨⟨13, .guard⟩, by simp, rfl, rfl⟩
    exact .skip rfl rfl (by rw [hsz]; simp) gg (hK _ _ (Below.refl _ _) rfl)
   | 22, hop =>
    obtain rfl := Option.some.inj hop
    have gg : a.tmps.getD 17 undef = (.bool true) := hdep 13 _ 17 rfl rfl ⟨⟨13, .guard⟩, by simp, rfl, rfl⟩
    exact .skip rfl rfl (by rw [hsz]; simp) gg (hK _ _ (Below.refl _ _) rfl)
   | 23, hop =>
    obtain rfl := Option.some.inj hop
    have gg : a.tmps.getD 17 undef = (.bool true) := hdep 13 _ 17 rfl rfl ⟨⟨13, .guard⟩, by simp, rfl, rfl⟩
    exact .skip rfl rfl (by rw [hsz]; simp) gg (hK _ _ (Below.refl _ _) rfl)
   | 24, hop =>
    obtain rfl := Option.some.inj hop
    have gg : a.tmps.getD 17 undef = (.bool true) := hdep 13 _ 17 rfl rfl ⟨⟨13, .guard⟩, by simp, rfl, rfl⟩
    exact .skip rfl rfl (by rw [hsz]; simp) gg (hK _ _ (Below.refl _ _) rfl)
   | 25, hop =>
    obtain rfl := Option.some.inj hop
    have gg : a.tmps.getD 17 undef = (.bool true) := hdep 13 _ 17 rfl rfl ⟨⟨13, .guard⟩, by simp, rfl, rfl⟩
    exact .skip rfl rfl (by rw [hsz]; simp) gg (hK _ _ (Below.refl _ _) rfl)
   | 26, hop =>
    obtain rfl := Option.some.inj hop
    have gg : a.tmps.getD 17 undef = (.bool true) := hdep 13 _ 17 rfl rfl ⟨⟨13, .guard⟩, by simp, rfl, rfl⟩
    exact .skip rfl rfl (by rw [hsz]; simp) gg (hK _ _ (Below.refl _ _) rfl)
   | 27, hop =>
    obtain rfl := Option.some.inj hop
    have gg : a.tmps.getD 17 undef = (.bool true) := hdep 13 _ 17 rfl rfl ⟨⟨13, .guard⟩, by simp, rfl, rfl⟩
    exact .skip rfl rfl (by rw [hsz]; simp) gg (hK _ _ (Below.refl _ _) rfl)
   | 28, hop =>
    obtain rfl := Option.some.inj hop
    have gg : a.tmps.getD 17 undef = (.bool true) := hdep 13 _ 17 rfl rfl ⟨⟨13, .guard⟩, by simp, rfl, rfl⟩
    exact .skip rfl rfl (by rw [hsz]; simp) gg (hK _ _ (Below.refl _ _) rfl)
   | 29, hop =>
    obtain rfl := Option.some.inj hop
    have gg : a.tmps.getD 17 undef = (.bool true) := hdep 13 _ 17 rfl rfl ⟨⟨13, .guard⟩, by simp, rfl, rfl⟩
    exact .skip rfl rfl (by rw [hsz]; simp) gg (hK _ _ (Below.refl _ _) rfl)
   | 30, hop =>
    obtain rfl := Option.some.inj hop
    have gg : a.tmps.getD 17 undef = (.bool true) := hdep 13 _ 17 rfl rfl ⟨⟨13, .guard⟩, by simp, rfl, rfl⟩
    exact .skip rfl rfl (by rw [hsz]; simp) gg (hK _ _ (Below.refl _ _) rfl)
   | 31, hop =>
    obtain rfl := Option.some.inj hop
    have gg : a.tmps.getD 17 undef = (.bool true) := hdep 13 _ 17 rfl rfl ⟨⟨13, .guard⟩, by simp, rfl, rfl⟩
    exact .skip rfl rfl (by rw [hsz]; simp) gg (hK _ _ (Below.refl _ _) rfl)
   | 32, hop =>
    obtain rfl := Option.some.inj hop
    have gg : a.tmps.getD 17 undef = (.bool true) := hdep 13 _ 17 rfl rfl ⟨⟨13, .guard⟩, by simp, rfl, rfl⟩
    exact .skip rfl rfl (by rw [hsz]; simp) gg (hK _ _ (Below.refl _ _) rfl)
   | 33, _ => exact absurd rfl hj
   | _ + 34, hop => exact absurd hop (by simp)
  ·intro a wa hwa hdf hsz hsl hrr K hK
   have t13 : a.tmps.getD 17 undef = (.bool true) := hrr 13 _ 17 rfl (by decide) rfl
   have t32 : a.tmps.getD 36 undef = undef := hrr 32 _ 36 rfl (by decide) rfl
   refine .plain rfl (wp_val (w' := wa) (v := (.bool true)) (by simp only [execOp, Act.eval]; rw [show a.tmps.getD 17 undef = _ from t13, show a.tmps.getD 36 undef = _ from t32]; rfl) ?_)
   refine hK _ wa ?_
   have hact := act_puts hdf hsz hsl
   clear hrr hsl hdf hsz hK t13 t32
   simp only [List.filterMap_cons, List.filterMap_nil, List.foldl_cons, List.foldl_nil] at hact
   rw [hact]
   generalize a.tmps.getD 4 undef = y4
   generalize a.tmps.getD 5 undef = y5
   generalize a.tmps.getD 6 undef = y6
   generalize a.tmps.getD 7 undef = y7
   generalize a.tmps.getD 8 undef = y8
   generalize a.tmps.getD 9 undef = y9
   generalize a.tmps.getD 10 undef = y10
   generalize a.tmps.getD 11 undef = y11
   generalize a.tmps.getD 12 undef = y12
   generalize a.tmps.getD 13 undef = y13
   generalize a.tmps.getD 14 undef = y14
   generalize a.tmps.getD 15 undef = y15
   generalize a.tmps.getD 16 undef = y16
   generalize a.tmps.getD 17 undef = y17
   generalize a.tmps.getD 18 undef = y18
   generalize a.tmps.getD 19 undef = y19
   generalize a.tmps.getD 20 undef = y20
   generalize a.tmps.getD 21 undef = y21
   generalize a.tmps.getD 22 undef = y22
   generalize a.tmps.getD 23 undef = y23
   generalize a.tmps.getD 24 undef = y24
   generalize a.tmps.getD 25 undef = y25
   generalize a.tmps.getD 26 undef = y26
   generalize a.tmps.getD 27 undef = y27
   generalize a.tmps.getD 28 undef = y28
   generalize a.tmps.getD 29 undef = y29
   generalize a.tmps.getD 30 undef = y30
   generalize a.tmps.getD 31 undef = y31
   generalize a.tmps.getD 32 undef = y32
   generalize a.tmps.getD 33 undef = y33
   generalize a.tmps.getD 34 undef = y34
   generalize a.tmps.getD 35 undef = y35
   generalize a.tmps.getD 36 undef = y36
   clear hact
   simp only [Act.put, List.setIfInBounds_toArray, List.set_cons_succ, List.set_cons_zero]
   have hf2 := (hf.out wa hwa).out
   have e1 := hf2.1
   have e2 := hf2.2.1
   replace hf2 := hide1 hf2.2.2
   clear hf hTa hwa
   go_wp2
   exact bodyPost_end (results_none rfl _ _ _) rfl hf2.out
 ·have hle : p + s.length ≤ cap := by omega
  obtain ⟨b, o, rfl, hbb, hbc⟩ := hbs.resolve_left (fun e => by
    have h0 : B.length = 0 := by rw [e]; rfl
    omega)
  have hbt : Hid (∀ wa, Below w.heap.size w wa → BsA wa (.slice (some ⟨b, o + p, none⟩) s.length (cap - p)) ((B.drop p).take s.length)) := hide1 fun wa hb =>
   ((hTa.out wa hb).bs.drop p (cap - p)).take (by rw [List.length_drop]; omega) (cap - p)
  have htrue : hp s (B.drop p) = true → ∀ wx, Below w.heap.size w wx → Hid (wx.cell? ⟨g, 1, none⟩ = some (.int .i64 (p : Nat)) ∧ wx.frozen? ⟨g, 1, none⟩ = false ∧ AnWd (.slice (some ⟨b, o, none⟩) B.length cap) B g p bad s w (.returned (.tuple #[])) (wx.setCell ⟨g, 1, none⟩ (.int .i64 (wrap64 ((p : Int) + ((st s).size : Int)))))) := fun e wx hb => hide1 (by
   obtain ⟨t, k⟩ := (hTa.out wx hb).set1 (p + s.length)
   have e3 : ((p + s.length : Nat) : Int) = wrap64 ((p : Int) + ((st s).size : Int)) := by
    rw [show (st s).size = s.length from rfl]; unfold wrap64; omega
   rw [e3] at t k
   exact ⟨(hTa.out wx hb).c1, (hTa.out wx hb).fr 1, rfl, by rw [e]; simpa using t, (Kg.of hb).trans k⟩)
  rw [hp_take] at hfalse htrue
  replace hfalse := hide1 hfalse
  replace htrue := hide1 htrue
  clear hbs h hbb hbc
  go_enter Tryz.func48, Tryz.ntmps48
  go_upto_region 0 with fail
  refine wp_flowG 33 _ _ (by kernel_rfl) (by kernel_rfl) (by kernel_rfl) rfl (fun j v _ => v = ([(.pointer (some ⟨g, 0, none⟩)), (.pointer (some ⟨g, 0, none⟩)), (.pointer (some ⟨g, 1, none⟩)), (.int .i64 (p : Nat)), (.string (st s)), (.int .i64 (s.length : Nat)), (.int .i64 (p + s.length : Nat)), (.pointer (some ⟨g, 0, none⟩)), (.pointer (some ⟨g, 0, none⟩)), (.pointer (some ⟨g, 0, none⟩)), (.slice (some ⟨b, o, none⟩) B.length cap), (.int .i64 (B.length : Nat)), (.bool false), (.bool false), (.pointer (some ⟨g, 0, none⟩)), (.pointer (some ⟨g, 0, none⟩)), (.pointer (some ⟨g, 0, none⟩)), (.slice (some ⟨b, o, none⟩) B.length cap), (.pointer (some ⟨g, 0, none⟩)), (.pointer (some ⟨g, 0, none⟩)), (.pointer (some ⟨g, 1, none⟩)), (.int .i64 (p : Nat)), (.pointer (some ⟨g, 0, none⟩)), (.pointer (some ⟨g, 0, none⟩)), (.pointer (some ⟨g, 1, none⟩)), (.int .i64 (p : Nat)), (.string (st s)), (.int .i64 (s.length : Nat)), (.int .i64 (p + s.length : Nat)), (.slice (some ⟨b, o + p, none⟩) s.length (cap - p)), (.string (st ((B.drop p).take s.length))), (.string (st s)), (.bool (!decide ((B.drop p).take s.length = s))), (.bool (!decide ((B.drop p).take s.length = s)))] : List Value).getD j undef) (fun _ _ _ _ h _ => h) ?_ ?_
  ·intro j op hop hj a wa hwa hsz hsl hdep K hK
   match j, hop with
   | 0, hop =>
    obtain rfl := Option.some.inj hop
    have p0 : a.tmps.getD 0 undef = (.pointer (some ⟨g, 0, none⟩)) := hsl 0 rfl
    exact .plain rfl (wp_val (w' := wa) (v := (.pointer (some ⟨g, 0, none⟩))) (by simp only [execOp, Act.eval]; rw [show a.tmps.getD 0 undef = _ from p0]; rfl) (hK _ _ (Below.refl _ _) rfl))
   | 1, hop =>
    obtain rfl := Option.some.inj hop
    have t0 : a.tmps.getD 4 undef = (.pointer (some ⟨g, 0, none⟩)) := hdep 0 _ 4 rfl rfl ⟨⟨0, .data⟩, by simp, rfl, rfl⟩
    exact .plain rfl (wp_val (w' := wa) (v := (.pointer (some ⟨g, 0, none⟩))) (by simp only [execOp, Act.eval]; rw [show a.tmps.getD 4 undef = _ from t0]; kernel_rfl) (hK _ _ (Below.refl _ _) rfl))
   | 2, hop =>
    obtain rfl := Option.some.inj hop
    have t1 : a.tmps.getD 5 undef = (.pointer (some ⟨g, 0, none⟩)) := hdep 1 _ 5 rfl rfl ⟨⟨1, .data⟩, by simp, rfl, rfl⟩
    exact .plain rfl (wp_val (w' := wa) (v := (.pointer (some ⟨g, 1, none⟩))) (by simp only [execOp, Act.eval]; rw [show a.tmps.getD 5 undef = _ from t1]; kernel_rfl) (hK _ _ (Below.refl _ _) rfl))
   | 3, hop =>
    obtain rfl := Option.some.inj hop
    have t2 : a.tmps.getD 6 undef = (.pointer (some ⟨g, 1, none⟩)) := hdep 2 _ 6 rfl rfl ⟨⟨2, .data⟩, by simp, rfl, rfl⟩
    exact .plain rfl (wp_val (w' := wa) (v := (.int .i64 (p : Nat))) (by simp only [execOp, Act.eval]; rw [show a.tmps.getD 6 undef = _ from t2]; simp only [Sem.run_bind, ld_gi (hTa.out wa hwa).c1, Result.andThen_ok, Sem.run_pure]) (hK _ _ (Below.refl _ _) rfl))
   | 4, hop =>
    obtain rfl := Option.some.inj hop
    have p1 : a.tmps.getD 1 undef = (.string (st s)) := hsl 1 rfl
    exact .plain rfl (wp_val (w' := wa) (v := (.string (st s))) (by simp only [execOp, Act.eval]; rw [show a.tmps.getD 1 undef = _ from p1]; rfl) (hK _ _ (Below.refl _ _) rfl))
   | 5, hop =>
    obtain rfl := Option.some.inj hop
    have t4 : a.tmps.getD 8 undef = (.string (st s)) := hdep 4 _ 8 rfl rfl ⟨⟨4, .data⟩, by simp, rfl, rfl⟩
    exact .plain rfl (wp_val (w' := wa) (v := (.int .i64 (s.length : Nat))) (by simp only [execOp, Act.eval, resolve, invoke, builtin, List.map_toArray, List.map_cons, List.map_nil, Sem.run_pure, Result.andThen_ok, Sem.run_bind]; rw [show a.tmps.getD 8 undef = _ from t4]; simp only [len_st, Result.andThen_ok]) (hK _ _ (Below.refl _ _) rfl))
   | 6, hop =>
    obtain rfl := Option.some.inj hop
    have t3 : a.tmps.getD 7 undef = (.int .i64 (p : Nat)) := hdep 3 _ 7 rfl rfl ⟨⟨3, .data⟩, by simp, rfl, rfl⟩
    have t5 : a.tmps.getD 9 undef = (.int .i64 (s.length : Nat)) := hdep 5 _ 9 rfl rfl ⟨⟨5, .data⟩, by simp, rfl, rfl⟩
    exact .plain rfl (wp_val (w' := wa) (v := (.int .i64 (p + s.length : Nat))) (by simp only [execOp, Act.eval]; rw [show a.tmps.getD 7 undef = _ from t3, show a.tmps.getD 9 undef = _ from t5]; simp only [Sem.run_bind, eg_nn, ad_nn hsum, Result.andThen_ok, Sem.run_pure]) (hK _ _ (Below.refl _ _) rfl))
   | 7, hop =>
    obtain rfl := Option.some.inj hop
    have p0 : a.tmps.getD 0 undef = (.pointer (some ⟨g, 0, none⟩)) := hsl 0 rfl
    exact .plain rfl (wp_val (w' := wa) (v := (.pointer (some ⟨g, 0, none⟩))) (by simp only [execOp, Act.eval]; rw [show a.tmps.getD 0 undef = _ from p0]; rfl) (hK _ _ (Below.refl _ _) rfl))
   | 8, hop =>
    obtain rfl := Option.some.inj hop
    have t7 : a.tmps.getD 11 undef = (.pointer (some ⟨g, 0, none⟩)) := hdep 7 _ 11 rfl rfl ⟨⟨7, .data⟩, by simp, rfl, rfl⟩
    exact .plain rfl (wp_val (w' := wa) (v := (.pointer (some ⟨g, 0, none⟩))) (by simp only [execOp, Act.eval]; rw [show a.tmps.getD 11 undef = _ from t7]; kernel_rfl) (hK _ _ (Below.refl _ _) rfl))
   | 9, hop =>
    obtain rfl := Option.some.inj hop
    have t8 : a.tmps.getD 12 undef = (.pointer (some ⟨g, 0, none⟩)) := hdep 8 _ 12 rfl rfl ⟨⟨8, .data⟩, by simp, rfl, rfl⟩
    exact .plain rfl (wp_val (w' := wa) (v := (.pointer (some ⟨g, 0, none⟩))) (by simp only [execOp, Act.eval]; rw [show a.tmps.getD 12 undef = _ from t8]; kernel_rfl) (hK _ _ (Below.refl _ _) rfl))
   | 10, hop =>
    obtain rfl := Option.some.inj hop
    have t9 : a.tmps.getD 13 undef = (.pointer (some ⟨g, 0, none⟩)) := hdep 9 _ 13 rfl rfl ⟨⟨9, .data⟩, by simp, rfl, rfl⟩
    exact .plain rfl (wp_val (w' := wa) (v := (.slice (some ⟨b, o, none⟩) B.length cap)) (by simp only [execOp, Act.eval]; rw [show a.tmps.getD 13 undef = _ from t9]; simp only [Sem.run_bind, ld_gs (hTa.out wa hwa).c0, Result.andThen_ok, Sem.run_pure]) (hK _ _ (Below.refl _ _) rfl))
   | 11, hop =>
    obtain rfl := Option.some.inj hop
    have t10 : a.tmps.getD 14 undef = (.slice (some ⟨b, o, none⟩) B.length cap) := hdep 10 _ 14 rfl rfl ⟨⟨10, .data⟩, by simp, rfl, rfl⟩
    exact .plain rfl (wp_val (w' := wa) (v := (.int .i64 (B.length : Nat))) (by simp only [execOp, Act.eval, resolve, invoke, builtin, List.map_toArray, List.map_cons, List.map_nil, Sem.run_pure, Result.andThen_ok, Sem.run_bind]; rw [show a.tmps.getD 14 undef = _ from t10]; simp only [len_bs, Result.andThen_ok]) (hK _ _ (Below.refl _ _) rfl))
   | 12, hop =>
    obtain rfl := Option.some.inj hop
    have t6 : a.tmps.getD 10 undef = (.int .i64 (p + s.length : Nat)) := hdep 6 _ 10 rfl rfl ⟨⟨6, .data⟩, by simp, rfl, rfl⟩
    have t11 : a.tmps.getD 15 undef = (.int .i64 (B.length : Nat)) := hdep 11 _ 15 rfl rfl ⟨⟨11, .data⟩, by simp, rfl, rfl⟩
    exact .plain rfl (wp_val (w' := wa) (v := (.bool false)) (by simp only [execOp, Act.eval]; rw [show a.tmps.getD 10 undef = _ from t6, show a.tmps.getD 15 undef = _ from t11]; simp only [Sem.run_bind, eg_nn, gt_nn, decide_eq_false hl, Result.andThen_ok, Sem.run_pure]) (hK _ _ (Below.refl _ _) rfl))
   | 13, hop =>
    obtain rfl := Option.some.inj hop
    have t12 : a.tmps.getD 16 undef = (.bool false) := hdep 12 _ 16 rfl rfl ⟨⟨12, .data⟩, by simp, rfl, rfl⟩
    exact .plain rfl (wp_val (w' := wa) (v := (.bool false)) (by simp only [execOp, Act.eval]; rw [show a.tmps.getD 16 undef = _ from t12]; rfl) (hK _ _ (Below.refl _ _) rfl))
   | 14, hop =>
    obtain rfl := Option.some.inj hop
    have gg : a.tmps.getD 17 undef = (.bool false) := hdep 13 _ 17 rfl rfl ⟨⟨13, .guard⟩, by simp, rfl, rfl⟩
    have p0 : a.tmps.getD 0 undef = (.pointer (some ⟨g, 0, none⟩)) := hsl 0 rfl
    exact .want rfl rfl (by rw [hsz]; simp) gg (wp_val (w' := wa) (v := (.pointer (some ⟨g, 0, none⟩))) (by simp only [execOp, Act.eval]; rw [show a.tmps.getD 0 undef = _ from p0]; rfl) (hK _ _ (Below.refl _ _) rfl))
   | 15, hop =>
    obtain rfl := Option.some.inj hop
    have gg : a.tmps.getD 17 undef = (.bool false) := hdep 13 _ 17 rfl rfl ⟨⟨13, .guard⟩, by simp, rfl, rfl⟩
    have t14 : a.tmps.getD 18 undef = (.pointer (some ⟨g, 0, none⟩)) := hdep 14 _ 18 rfl rfl ⟨⟨14, .data⟩, by simp, rfl, rfl⟩
    exact .want rfl rfl (by rw [hsz]; simp) gg (wp_val (w' := wa) (v := (.pointer (some ⟨g, 0, none⟩))) (by simp only [execOp, Act.eval]; rw [show a.tmps.getD 18 undef = _ from t14]; kernel_rfl) (hK _ _ (Below.refl _ _) rfl))
   | 16, hop =>
    obtain rfl := Option.some.inj hop
    have gg : a.tmps.getD 17 undef = (.bool false) := hdep 13 _ 17 rfl rfl ⟨⟨13, .guard⟩, by simp, rfl, rfl⟩
    have t15 : a.tmps.getD 19 undef = (.pointer (some ⟨g, 0, none⟩)) := hdep 15 _ 19 rfl rfl ⟨⟨15, .data⟩, by simp, rfl, rfl⟩
    exact .want rfl rfl (by rw [hsz]; simp) gg (wp_val (w' := wa) (v := (.pointer (some ⟨g, 0, none⟩))) (by simp only [execOp, Act.eval]; rw [show a.tmps.getD 19 undef = _ from t15]; kernel_rfl) (hK _ _ (Below.refl _ _) rfl))
   | 17, hop =>
    obtain rfl := Option.some.inj hop
    have gg : a.tmps.getD 17 undef = (.bool false) := hdep 13 _ 17 rfl rfl ⟨⟨13, .guard⟩, by simp, rfl, rfl⟩
    have t16 : a.tmps.getD 20 undef = (.pointer (some ⟨g, 0, none⟩)) := hdep 16 _ 20 rfl rfl ⟨⟨16, .data⟩, by simp, rfl, rfl⟩
    exact .want rfl rfl (by rw [hsz]; simp) gg (wp_val (w' := wa) (v := (.slice (some ⟨b, o, none⟩) B.length cap)) (by simp only [execOp, Act.eval]; rw [show a.tmps.getD 20 undef = _ from t16]; simp only [Sem.run_bind, ld_gs (hTa.out wa hwa).c0, Result.andThen_ok, Sem.run_pure]) (hK _ _ (Below.refl _ _) rfl))
   | 18, hop =>
    obtain rfl := Option.some.inj hop
    have gg : a.tmps.getD 17 undef = (.bool false) := hdep 13 _ 17 rfl rfl ⟨⟨13, .guard⟩, by simp, rfl, rfl⟩
    have p0 : a.tmps.getD 0 undef = (.pointer (some ⟨g, 0, none⟩)) := hsl 0 rfl
    exact .want rfl rfl (by rw [hsz]; simp) gg (wp_val (w' := wa) (v := (.pointer (some ⟨g, 0, none⟩))) (by simp only [execOp, Act.eval]; rw [show a.tmps.getD 0 undef = _ from p0]; rfl) (hK _ _ (Below.refl _ _) rfl))
   | 19, hop =>
    obtain rfl := Option.some.inj hop
    have gg : a.tmps.getD 17 undef = (.bool false) := hdep 13 _ 17 rfl rfl ⟨⟨13, .guard⟩, by simp, rfl, rfl⟩
    have t18 : a.tmps.getD 22 undef = (.pointer (some ⟨g, 0, none⟩)) := hdep 18 _ 22 rfl rfl ⟨⟨18, .data⟩, by simp, rfl, rfl⟩
    exact .want rfl rfl (by rw [hsz]; simp) gg (wp_val (w' := wa) (v := (.pointer (some ⟨g, 0, none⟩))) (by simp only [execOp, Act.eval]; rw [show a.tmps.getD 22 undef = _ from t18]; kernel_rfl) (hK _ _ (Below.refl _ _) rfl))
   | 20, hop =>
    obtain rfl := Option.some.inj hop
    have gg : a.tmps.getD 17 undef = (.bool false) := hdep 13 _ 17 rfl rfl ⟨⟨13, .guard⟩, by simp, rfl, rfl⟩
    have t19 : a.tmps.getD 23 undef = (.pointer (some ⟨g, 0, none⟩)) := hdep 19 _ 23 rfl rfl ⟨⟨19, .data⟩, by simp, rfl, rfl⟩
    exact .want rfl rfl (by rw [hsz]; simp) gg (wp_val (w' := wa) (v := (.pointer (some ⟨g, 1, none⟩))) (by simp only [execOp, Act.eval]; rw [show a.tmps.getD 23 undef = _ from t19]; kernel_rfl) (hK _ _ (Below.refl _ _) rfl))
   | 21, hop =>
    obtain rfl := Option.some.inj hop
    have gg : a.tmps.getD 17 undef = (.bool false) := hdep 13 _ 17 rfl rfl ⟨⟨13, .guard⟩, by simp, rfl, rfl⟩
    have t20 : a.tmps.getD 24 undef = (.pointer (some ⟨g, 1, none⟩)) := hdep 20 _ 24 rfl rfl ⟨⟨20, .data⟩, by simp, rfl, rfl⟩
    exact .want rfl rfl (by rw [hsz]; simp) gg (wp_val (w' := wa) (v := (.int .i64 (p : Nat))) (by simp only [execOp, Act.eval]; rw [show a.tmps.getD 24 undef = _ from t20]; simp only [Sem.run_bind, ld_gi (hTa.out wa hwa).c1, Result.andThen_ok, Sem.run_pure]) (hK _ _ (Below.refl _ _) rfl))
   | 22, hop =>
    obtain rfl := Option.some.inj hop
    have gg : a.tmps.getD 17 undef = (.bool false) := hdep 13 _ 17 rfl rfl ⟨⟨13, .guard⟩, by simp, rfl, rfl⟩
    have p0 : a.tmps.getD 0 undef = (.pointer (some ⟨g, 0, none⟩)) := hsl 0 rfl
    exact .want rfl rfl (by rw [hsz]; simp) gg (wp_val (w' := wa) (v := (.pointer (some ⟨g, 0, none⟩))) (by simp only [execOp, Act.eval]; rw [show a.tmps.getD 0 undef = _ from p0]; rfl) (hK _ _ (Below.refl _ _) rfl))
   | 23, hop =>
    obtain rfl := Option.some.inj hop
    have gg : a.tmps.getD 17 undef = (.bool false) := hdep 13 _ 17 rfl rfl ⟨⟨13, .guard⟩, by simp, rfl, rfl⟩
    have t22 : a.tmps.getD 26 undef = (.pointer (some ⟨g, 0, none⟩)) := hdep 22 _ 26 rfl rfl ⟨⟨22, .data⟩, by simp, rfl, rfl⟩
    exact .want rfl rfl (by rw [hsz]; simp) gg (wp_val (w' := wa) (v := (.pointer (some ⟨g, 0, none⟩))) (by simp only [execOp, Act.eval]; rw [show a.tmps.getD 26 undef = _ from t22]; kernel_rfl) (hK _ _ (Below.refl _ _) rfl))
   | 24, hop =>
    obtain rfl := Option.some.inj hop
    have gg : a.tmps.getD 17 undef = (.bool false) := hdep 13 _ 17 rfl rfl ⟨⟨13, .guard⟩, by simp, rfl, rfl⟩
    have t23 : a.tmps.getD 27 undef = (.pointer (some ⟨g, 0, none⟩)) := hdep 23 _ 27 rfl rfl ⟨⟨23, .data⟩, by simp, rfl, rfl⟩
    exact .want rfl rfl (by rw [hsz]; simp) gg (wp_val (w' := wa) (v := (.pointer (some ⟨g, 1, none⟩))) (by simp only [execOp, Act.eval]; rw [show a.tmps.getD 27 undef = _ from t23]; kernel_rfl) (hK _ _ (Below.refl _ _) rfl))
   | 25, hop =>
    obtain rfl := Option.some.inj hop
    have gg : a.tmps.getD 17 undef = (.bool false) := hdep 13 _ 17 rfl rfl ⟨⟨13, .guard⟩, by simp, rfl, rfl⟩
    have t24 : a.tmps.getD 28 undef = (.pointer (some ⟨g, 1, none⟩)) := hdep 24 _ 28 rfl rfl ⟨⟨24, .data⟩, by simp, rfl, rfl⟩
    exact .want rfl rfl (by rw [hsz]; simp) gg (wp_val (w' := wa) (v := (.int .i64 (p : Nat))) (by simp only [execOp, Act.eval]; rw [show a.tmps.getD 28 undef = _ from t24]; simp only [Sem.run_bind, ld_gi (hTa.out wa hwa).c1, Result.andThen_ok, Sem.run_pure]) (hK _ _ (Below.refl _ _) rfl))
   | 26, hop =>
    obtain rfl := Option.some.inj hop
    have gg : a.tmps.getD 17 undef = (.bool false) := hdep 13 _ 17 rfl rfl ⟨⟨13, .guard⟩, by simp, rfl, rfl⟩
    have p1 : a.tmps.getD 1 undef = (.string (st s)) := hsl 1 rfl
    exact .want rfl rfl (by rw [hsz]; simp) gg (wp_val (w' := wa) (v := (.string (st s))) (by simp only [execOp, Act.eval]; rw [show a.tmps.getD 1 undef = _ from p1]; rfl) (hK _ _ (Below.refl _ _) rfl))
   | 27, hop =>
    obtain rfl := Option.some.inj hop
    have gg : a.tmps.getD 17 undef = (.bool false) := hdep 13 _ 17 rfl rfl ⟨⟨13, .guard⟩, by simp, rfl, rfl⟩
    have t26 : a.tmps.getD 30 undef = (.string (st s)) := hdep 26 _ 30 rfl rfl ⟨⟨26, .data⟩, by simp, rfl, rfl⟩
    exact .want rfl rfl (by rw [hsz]; simp) gg (wp_val (w' := wa) (v := (.int .i64 (s.length : Nat))) (by simp only [execOp, Act.eval, resolve, invoke, builtin, List.map_toArray, List.map_cons, List.map_nil, Sem.run_pure, Result.andThen_ok, Sem.run_bind]; rw [show a.tmps.getD 30 undef = _ from t26]; simp only [len_st, Result.andThen_ok]) (hK _ _ (Below.refl _ _) rfl))
   | 28, hop =>
    obtain rfl := Option.some.inj hop
    have gg : a.tmps.getD 17 undef = (.bool false) := hdep 13 _ 17 rfl rfl ⟨⟨13, .guard⟩, by simp, rfl, rfl⟩
    have t25 : a.tmps.getD 29 undef = (.int .i64 (p : Nat)) := hdep 25 _ 29 rfl rfl ⟨⟨25, .data⟩, by simp, rfl, rfl⟩
    have t27 : a.tmps.getD 31 undef = (.int .i64 (s.length : Nat)) := hdep 27 _ 31 rfl rfl ⟨⟨27, .data⟩, by simp, rfl, rfl⟩
    exact .want rfl rfl (by rw [hsz]; simp) gg (wp_val (w' := wa) (v := (.int .i64 (p + s.length : Nat))) (by simp only [execOp, Act.eval]; rw [show a.tmps.getD 29 undef = _ from t25, show a.tmps.getD 31 undef = _ from t27]; simp only [Sem.run_bind, eg_nn, ad_nn hsum, Result.andThen_ok, Sem.run_pure]) (hK _ _ (Below.refl _ _) rfl))
   | 29, hop =>
    obtain rfl := Option.some.inj hop
    have gg : a.tmps.getD 17 undef = (.bool false) := hdep 13 _ 17 rfl rfl ⟨⟨13, .guard⟩, by simp, rfl, rfl⟩
    have t17 : a.tmps.getD 21 undef = (.slice (some ⟨b, o, none⟩) B.length cap) := hdep 17 _ 21 rfl rfl ⟨⟨17, .data⟩, by simp, rfl, rfl⟩
    have t21 : a.tmps.getD 25 undef = (.int .i64 (p : Nat)) := hdep 21 _ 25 rfl rfl ⟨⟨21, .data⟩, by simp, rfl, rfl⟩
    have t28 : a.tmps.getD 32 undef = (.int .i64 (p + s.length : Nat)) := hdep 28 _ 32 rfl rfl ⟨⟨28, .data⟩, by simp, rfl, rfl⟩
    exact .want rfl rfl (by rw [hsz]; simp) gg (wp_val (w' := wa) (v := (.slice (some ⟨b, o + p, none⟩) s.length (cap - p))) (by simp only [execOp, Act.eval, Option.map_some, Option.map_none]; rw [show a.tmps.getD 21 undef = _ from t17, show a.tmps.getD 25 undef = _ from t21, show a.tmps.getD 32 undef = _ from t28]; simp only [Sem.run_bind, sl_md hs hle, Result.andThen_ok, Sem.run_pure]) (hK _ _ (Below.refl _ _) rfl))
   | 30, hop =>
    obtain rfl := Option.some.inj hop
    have gg : a.tmps.getD 17 undef = (.bool false) := hdep 13 _ 17 rfl rfl ⟨⟨13, .guard⟩, by simp, rfl, rfl⟩
    have t29 : a.tmps.getD 33 undef = (.slice (some ⟨b, o + p, none⟩) s.length (cap - p)) := hdep 29 _ 33 rfl rfl ⟨⟨29, .data⟩, by simp, rfl, rfl⟩
    exact .want rfl rfl (by rw [hsz]; simp) gg (wp_val (w' := wa) (v := (.string (st ((B.drop p).take s.length)))) (by simp only [execOp, Act.eval]; rw [show a.tmps.getD 33 undef = _ from t29]; simp only [Sem.run_bind, conv_b (hbt.out wa hwa), Result.andThen_ok, Sem.run_pure]) (hK _ _ (Below.refl _ _) rfl))
   | 31, hop =>
    obtain rfl := Option.some.inj hop
    have gg : a.tmps.getD 17 undef = (.bool false) := hdep 13 _ 17 rfl rfl ⟨⟨13, .guard⟩, by simp, rfl, rfl⟩
    have p1 : a.tmps.getD 1 undef = (.string (st s)) := hsl 1 rfl
    exact .want rfl rfl (by rw [hsz]; simp) gg (wp_val (w' := wa) (v := (.string (st s))) (by simp only [execOp, Act.eval]; rw [show a.tmps.getD 1 undef = _ from p1]; rfl) (hK _ _ (Below.refl _ _) rfl))
   | 32, hop =>
    obtain rfl := Option.some.inj hop
    have gg : a.tmps.getD 17 undef = (.bool false) := hdep 13 _ 17 rfl rfl ⟨⟨13, .guard⟩, by simp, rfl, rfl⟩
    have t30 : a.tmps.getD 34 undef = (.string (st ((B.drop p).take s.length))) := hdep 30 _ 34 rfl rfl ⟨⟨30, .data⟩, by simp, rfl, rfl⟩
    have t31 : a.tmps.getD 35 undef = (.string (st s)) := hdep 31 _ 35 rfl rfl ⟨⟨31, .data⟩, by simp, rfl, rfl⟩
    exact .want rfl rfl (by rw [hsz]; simp) gg (wp_val (w' := wa) (v := (.bool (!decide ((B.drop p).take s.length = s)))) (by simp only [execOp, Act.eval]; rw [show a.tmps.getD 34 undef = _ from t30, show a.tmps.getD 35 undef = _ from t31]; simp only [Sem.run_bind, eg_s, nq_s, Result.andThen_ok, Sem.run_pure]) (hK _ _ (Below.refl _ _) rfl))
   | 33, _ => exact absurd rfl hj
   | _ + 34, hop => exact absurd hop (by simp)
  ·intro a wa hwa hdf hsz hsl hrr K hK
   have t13 : a.tmps.getD 17 undef = (.bool false) := hrr 13 _ 17 rfl (by decide) rfl
   have t32 : a.tmps.getD 36 undef = (.bool (!decide ((B.drop p).take s.length = s))) := hrr 32 _ 36 rfl (by decide) rfl
   refine .plain rfl (wp_val (w' := wa) (v := (.bool (!decide ((B.drop p).take s.length = s)))) (by simp only [execOp, Act.eval]; rw [show a.tmps.getD 17 undef = _ from t13, show a.tmps.getD 36 undef = _ from t32]; rfl) ?_)
   refine hK _ wa ?_
   have hact := act_puts hdf hsz hsl
   clear hrr hsl hdf hsz hK t13 t32
   simp only [List.filterMap_cons, List.filterMap_nil, List.foldl_cons, List.foldl_nil] at hact
   rw [hact]
   generalize a.tmps.getD 4 undef = y4
   generalize a.tmps.getD 5 undef = y5
   generalize a.tmps.getD 6 undef = y6
   generalize a.tmps.getD 7 undef = y7
   generalize a.tmps.getD 8 undef = y8
   generalize a.tmps.getD 9 undef = y9
   generalize a.tmps.getD 10 undef = y10
   generalize a.tmps.getD 11 undef = y11
   generalize a.tmps.getD 12 undef = y12
   generalize a.tmps.getD 13 undef = y13
   generalize a.tmps.getD 14 undef = y14
   generalize a.tmps.getD 15 undef = y15
   generalize a.tmps.getD 16 undef = y16
   generalize a.tmps.getD 17 undef = y17
   generalize a.tmps.getD 18 undef = y18
   generalize a.tmps.getD 19 undef = y19
   generalize a.tmps.getD 20 undef = y20
   generalize a.tmps.getD 21 undef = y21
   generalize a.tmps.getD 22 undef = y22
   generalize a.tmps.getD 23 undef = y23
   generalize a.tmps.getD 24 undef = y24
   generalize a.tmps.getD 25 undef = y25
   generalize a.tmps.getD 26 undef = y26
   generalize a.tmps.getD 27 undef = y27
   generalize a.tmps.getD 28 undef = y28
   generalize a.tmps.getD 29 undef = y29
   generalize a.tmps.getD 30 undef = y30
   generalize a.tmps.getD 31 undef = y31
   generalize a.tmps.getD 32 undef = y32
   generalize a.tmps.getD 33 undef = y33
   generalize a.tmps.getD 34 undef = y34
   generalize a.tmps.getD 35 undef = y35
   generalize a.tmps.getD 36 undef = y36
   clear hact
   simp only [Act.put, List.setIfInBounds_toArray, List.set_cons_succ, List.set_cons_zero]
   by_cases he : (B.drop p).take s.length = s
   ·have hf2 := (htrue.out (decide_eq_true he) wa hwa).out
    have e1 := hf2.1
    have e2 := hf2.2.1
    replace hf2 := hide1 hf2.2.2
    rw [decide_eq_true he]
    clear hfalse htrue hTa hwa hbt he
    simp only [Bool.not_true]
    go_wp2
    exact bodyPost_end (results_none rfl _ _ _) rfl hf2.out
   ·have hf2 := (hfalse.out (decide_eq_false he) wa hwa).out
    have e1 := hf2.1
    have e2 := hf2.2.1
    replace hf2 := hide1 hf2.2.2
    rw [decide_eq_false he]
    clear hfalse htrue hTa hwa hbt he
    simp only [Bool.not_false]
    go_wp2
    exact bodyPost_end (results_none rfl _ _ _) rfl hf2.out
set_option maxHeartbeats 4000000 in
set_option maxRecDepth 100000 in
theorem figure_t (h : Tg sl B g p bad w) : Calls Tryz.prog 90 #[.pointer (some ⟨g, 0, none⟩)] w fun e w' => e = .returned (.bool (decide (48 ≤ nx B p) && decide (nx B p ≤ 57))) ∧ Below w.heap.size w w' := by
 have hn1 := next_t h
 have hn2 : Hid (∀ wx, Below w.heap.size w wx → Calls Tryz.prog 47 #[.pointer (some ⟨g, 0, none⟩)] wx fun e w' => e = .returned (.int .i64 (nx B p : Nat)) ∧ Below wx.heap.size wx w') := hide1 fun wx hb => next_t (h.later hb)
 have hc := nx_lt B p
 generalize nx B p = c at *
 clear h
 go_enter Tryz.func90, Tryz.ntmps90
 go_wp2_with fail
 refine hn1.mono ?_
 rintro e w1 ⟨rfl, b1⟩
 by_cases h1 : 48 ≤ c
 ·have dd1 : decide ((c : Int) ≥ 48) = true := decide_eq_true (by omega)
  have hn := hn2.out w1 b1
  replace b1 := hide1 b1
  clear hn1 hn2
  go_wp2_with fail
  refine hn.mono ?_
  rintro e w2 ⟨rfl, b2⟩
  replace b2 := hide1 (b1.out.trans (b2.mono b1.out.size))
  by_cases h2 : c ≤ 57
  ·have hE : Hid ((decide (48 ≤ c) && decide (c ≤ 57)) = true) := hide1 (by simp [h1, h2])
   have dd2 : decide ((c : Int) ≤ 57) = true := decide_eq_true (by omega)
   clear hn b1
   go_wp2
   go_ret
   exact ⟨by rw [hE.out]; rfl, b2.out⟩
  ·have hE : Hid ((decide (48 ≤ c) && decide (c ≤ 57)) = false) := hide1 (by simp [h2])
   have dd2 : decide ((c : Int) ≤ 57) = false := decide_eq_false (by omega)
   clear hn b1
   go_wp2
   go_ret
   exact ⟨by rw [hE.out]; rfl, b2.out⟩
 ·have hE : Hid ((decide (48 ≤ c) && decide (c ≤ 57)) = false) := hide1 (by simp [h1])
  have dd1 : decide ((c : Int) ≥ 48) = false := decide_eq_false (by omega)
  replace b1 := hide1 b1
  clear hn1 hn2
  go_wp2
  go_ret
  exact ⟨by rw [hE.out]; rfl, b1.out⟩
end
end Go.Proofs.YtbemaloaobeblaaGreatDoor

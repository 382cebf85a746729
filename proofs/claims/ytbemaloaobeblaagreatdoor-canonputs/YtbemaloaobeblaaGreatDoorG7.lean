/- KR2: laid together. -/
import Derived.BigQuiet
import Derived.Test.YtbemaloaobeblaaGreatDoorG6
namespace Go.Proofs.YtbemaloaobeblaaGreatDoor
open Go.RowKit

def fcl (c : Nat) : Nat → List UInt8 → Option Nat
  | 0, _ => some c
  | _ + 1, [] => none
  | k + 1, b :: l => if b.toNat < 128 ∨ 191 < b.toNat then none else fcl (64 * c + b.toNat - 128) k l
theorem fcl_at {c k i : Nat} {m : List UInt8} {x : UInt8} (h : m[i]? = some x) : fcl c (k + 1) (m.drop i) = if x.toNat < 128 ∨ 191 < x.toNat then none else fcl (64 * c + x.toNat - 128) k (m.drop (i + 1)) := by
  obtain ⟨h1, h2⟩ := List.getElem?_eq_some_iff.1 h
  rw [List.drop_eq_getElem_cons h1, h2]
  rfl
def bdc (c : Nat) : Prop := 1114111 < c ∨ (55296 ≤ c ∧ c ≤ 57343)
instance (c : Nat) : Decidable (bdc c) := by unfold bdc; infer_instance
def fend (n c : Nat) (l : List UInt8) : Nat × Nat := if bdc c ∨ sgn c ≠ l.take n then (0, 0) else (c, n)
def fgo (n c0 : Nat) (l : List UInt8) : Nat × Nat := if l.length < n then (0, 0) else match fcl c0 (n - 1) l.tail with
  | none => (0, 0)
  | some c => fend n c l
def fstR : List UInt8 → Nat × Nat
  | [] => (0, 0)
  | b :: m => if b.toNat < 128 then fgo 1 b.toNat (b :: m) else if b.toNat < 192 then (0, 0) else if b.toNat < 224 then fgo 2 (b.toNat - 192) (b :: m) else if b.toNat < 240 then fgo 3 (b.toNat - 224) (b :: m) else fgo 4 (b.toNat - 240) (b :: m)
def AnF (w : World) (x : Nat × Nat) (e : Ending) (w' : World) : Prop := e = .returned (.tuple #[.int .i64 (x.1 : Nat), .int .i64 (x.2 : Nat)]) ∧ Below w.heap.size w w'
theorem BsA.take {w : World} {a : Option Addr} {n cap : Nat} {l : List UInt8} (h : BsA w (.slice a n cap) l) {k : Nat} (hk : k ≤ l.length) (c : Nat) : BsA w (.slice a k c) (l.take k) := by
  obtain ⟨a', cap', e, h⟩ := h
  cases e
  have hkl : (l.take k).length = k := by simp; omega
  refine ⟨a, c, by rw [hkl], ?_⟩
  rcases h with rfl | ⟨b, o, rfl, hb, hc⟩
  · left; simp
  · right
    refine ⟨b, o, rfl, hb, fun j x hj => hc j x ?_⟩
    rw [List.getElem?_take] at hj
    split at hj
    · exact hj
    · cases hj
theorem bc_at {l : List UInt8} {w : World} : BsA (w.alloc (.cells (bc l) 5)) (.slice (some ⟨w.heap.size, 0, none⟩) l.length l.length) l := by
  refine ⟨_, _, rfl, .inr ⟨_, _, rfl, by simp, fun j x hj => ?_⟩⟩
  have := new_at w (bc l) 5
  simp only [World.cell?, this]
  simp [bc, hj]
theorem BsA.bl {w w' : World} {v : Value} {l : List UInt8} (h : BsA w v l) (hb : Below w.heap.size w w') : BsA w' v l := h.below hb
theorem bi_gt (a b : Int) (w : World) : (binOp .gtr 3 (.int .i64 a) (.int .i64 b)).run Tryz.prog w = .ok (.bool (decide (a > b))) w := by
  simp [binOp, go_sem]
theorem bi_ge (a b : Int) (w : World) : (binOp .geq 3 (.int .i64 a) (.int .i64 b)).run Tryz.prog w = .ok (.bool (decide (a ≥ b))) w := by
  simp [binOp, go_sem]
theorem bi_le (a b : Int) (w : World) : (binOp .leq 3 (.int .i64 a) (.int .i64 b)).run Tryz.prog w = .ok (.bool (decide (a ≤ b))) w := by
  simp [binOp, go_sem]
theorem eg_gt {x u : Operand} {t : TypeId} (a b : Value) (w : World) : (eqGuard .gtr t x u a b).run Tryz.prog w = .ok () w := by simp [eqGuard, go_sem]
theorem eg_ge {x u : Operand} {t : TypeId} (a b : Value) (w : World) : (eqGuard .geq t x u a b).run Tryz.prog w = .ok () w := by simp [eqGuard, go_sem]
theorem eg_le {x u : Operand} {t : TypeId} (a b : Value) (w : World) : (eqGuard .leq t x u a b).run Tryz.prog w = .ok () w := by simp [eqGuard, go_sem]
theorem sl_to {b o n k cap : Nat} {i : Int} (hi : i = (k : Nat)) (hk : k ≤ cap) (w : World) : (Instr.sliceAt 22 (.slice (some ⟨b, o, none⟩) n cap) none (some (.int .i64 i)) none).run Tryz.prog w = .ok (.slice (some ⟨b, o, none⟩) k cap) w := by
  subst hi
  simp [Instr.sliceAt, go_sem, hk]
theorem str_ne (a b : List UInt8) (w : World) : (binOp .neq 9 (.string (st a)) (.string (st b))).run Tryz.prog w = .ok (.bool (!decide (a = b))) w := nq_s w
set_option maxHeartbeats 4000000 in
set_option maxRecDepth 100000 in
theorem first_0 {w : World} {v : Value} (h : BsA w v []) : Calls Tryz.prog 86 #[v] w (AnF w (fstR [])) := by
  obtain ⟨a, cap, rfl, -⟩ := h
  go_enter Tryz.func86, Tryz.ntmps86
  go_wp2
  go_ret2
  exact ⟨rfl, Below.refl _ _⟩
set_option maxHeartbeats 4000000 in
set_option maxRecDepth 100000 in
theorem first_x {w : World} {v : Value} {x : UInt8} {m : List UInt8} (h : BsA w v (x :: m)) (h1 : ¬ x.toNat < 128) (h2 : x.toNat < 192) : Calls Tryz.prog 86 #[v] w (AnF w (0, 0)) := by
  obtain ⟨a, cap, rfl, h⟩ := h
  obtain ⟨b, o, rfl, hb, hc⟩ := h.resolve_left (by simp)
  have c0 : w.cell? ⟨b, o, none⟩ = some (.int .u8 (x.toNat : Nat)) := hc 0 x rfl
  have hfin : Hid (AnF w (0, 0) (.returned (.tuple #[.int .i64 0, .int .i64 0])) w) := hide1 ⟨rfl, Below.refl _ _⟩
  simp only [List.length_cons]
  generalize m.length = N at *
  clear hc
  go_enter Tryz.func86, Tryz.ntmps86
  go_wp2
  all_goals (go_ret2; exact hfin.out)
set_option maxHeartbeats 4000000 in
set_option maxRecDepth 100000 in
theorem first_s2 {w : World} {v : Value} {x : UInt8} {m : List UInt8} (h : BsA w v (x :: m)) (h1 : 192 ≤ x.toNat) (h2 : x.toNat < 224) (hs : m.length + 1 < 2) : Calls Tryz.prog 86 #[v] w (AnF w (0, 0)) := by
  obtain ⟨a, cap, rfl, h⟩ := h
  obtain ⟨b, o, rfl, hb, hc⟩ := h.resolve_left (by simp)
  have c0 : w.cell? ⟨b, o, none⟩ = some (.int .u8 (x.toNat : Nat)) := hc 0 x rfl
  have hx := x.toNat_lt
  have hfin : Hid (AnF w (0, 0) (.returned (.tuple #[.int .i64 0, .int .i64 0])) w) := hide1 ⟨rfl, Below.refl _ _⟩
  simp only [List.length_cons]
  generalize m.length = N at *
  clear hc
  go_enter Tryz.func86, Tryz.ntmps86
  go_wp2
  all_goals (go_ret2; exact hfin.out)
set_option maxHeartbeats 4000000 in
set_option maxRecDepth 100000 in
theorem first_s3 {w : World} {v : Value} {x : UInt8} {m : List UInt8} (h : BsA w v (x :: m)) (h1 : 224 ≤ x.toNat) (h2 : x.toNat < 240) (hs : m.length + 1 < 3) : Calls Tryz.prog 86 #[v] w (AnF w (0, 0)) := by
  obtain ⟨a, cap, rfl, h⟩ := h
  obtain ⟨b, o, rfl, hb, hc⟩ := h.resolve_left (by simp)
  have c0 : w.cell? ⟨b, o, none⟩ = some (.int .u8 (x.toNat : Nat)) := hc 0 x rfl
  have hx := x.toNat_lt
  have hfin : Hid (AnF w (0, 0) (.returned (.tuple #[.int .i64 0, .int .i64 0])) w) := hide1 ⟨rfl, Below.refl _ _⟩
  simp only [List.length_cons]
  generalize m.length = N at *
  clear hc
  go_enter Tryz.func86, Tryz.ntmps86
  go_wp2
  all_goals (go_ret2; exact hfin.out)
set_option maxHeartbeats 4000000 in
set_option maxRecDepth 100000 in
theorem first_s4 {w : World} {v : Value} {x : UInt8} {m : List UInt8} (h : BsA w v (x :: m)) (h1 : 240 ≤ x.toNat) (hs : m.length + 1 < 4) : Calls Tryz.prog 86 #[v] w (AnF w (0, 0)) := by
  obtain ⟨a, cap, rfl, h⟩ := h
  obtain ⟨b, o, rfl, hb, hc⟩ := h.resolve_left (by simp)
  have c0 : w.cell? ⟨b, o, none⟩ = some (.int .u8 (x.toNat : Nat)) := hc 0 x rfl
  have hx := x.toNat_lt
  have hfin : Hid (AnF w (0, 0) (.returned (.tuple #[.int .i64 0, .int .i64 0])) w) := hide1 ⟨rfl, Below.refl _ _⟩
  simp only [List.length_cons]
  generalize m.length = N at *
  clear hc
  go_enter Tryz.func86, Tryz.ntmps86
  go_wp2
  all_goals (go_ret2; exact hfin.out)
set_option maxHeartbeats 16000000 in
set_option maxRecDepth 100000 in
theorem first_1a {w : World} {sa : Option Addr} {cap : Nat} {x : UInt8} {m : List UInt8} (h : BsA w (.slice sa (m.length + 1) cap) (x :: m)) (hcap : m.length + 1 ≤ cap) (h1 : x.toNat < 16) (_hs : 1 ≤ m.length + 1) : Calls Tryz.prog 86 #[.slice sa (m.length + 1) cap] w (AnF w (fgo 1 x.toNat (x :: m))) := by
  have hall := h
  obtain ⟨_, _, e, h⟩ := h
  cases e
  obtain ⟨b, o, rfl, hb, hc⟩ := h.resolve_left (by simp)
  have c0 : w.cell? ⟨b, o, none⟩ = some (.int .u8 (x.toNat : Nat)) := hc 0 x rfl
  have hx := x.toNat_lt
  have hR : Hid (fgo 1 x.toNat (x :: m) = match fcl x.toNat 0 m with
    | none => (0, 0)
    | some c => fend 1 c (x :: m)) := hide1 (by unfold fgo; rw [if_neg (by simp only [List.length_cons]; omega)]; rfl)
  generalize fgo 1 x.toNat (x :: m) = R at *
  obtain ⟨N, hN⟩ : ∃ N, Hid (N = m.length) := ⟨_, hide1 rfl⟩
  rw [← hN.out] at hall hcap ⊢
  replace hall := hide1 hall
  replace hc := hide1 hc
  go_enter Tryz.func86, Tryz.ntmps86
  go_wp2_with fail
  go_loopw [4, 6] (fun s4 s6 wr => ∃ c i : Nat, s4 = .int .i64 (c : Nat) ∧ s6 = .int .i64 (i : Nat) ∧ ((i = 1 ∧ c < 128)) ∧ wr = w ∧ Hid (fcl c (1 - i) (m.drop (i - 1)) = fcl x.toNat 0 m)) (fun _ s6 _ => 1 - (intOf s6).toNat)
  case atStart => exact ⟨x.toNat, 1, by first | rfl | (congr 1; omega), rfl, by omega, rfl, hide1 rfl⟩
  case round =>
    obtain ⟨c, i, rfl, rfl, hci, rfl, hme⟩ := hrel
    by_cases hlt : i < 1
    · exfalso; omega
    · have hi : i = 1 := by omega
      subst hi
      have hme2 : fcl x.toNat 0 m = some c := by rw [← hme.out]; rfl
      have hR2 : Hid (R = fend 1 c (x :: m)) := hide1 (by rw [hR.out, hme2])
      have hcm : c < 8388608 := by omega
      clear hme hme2 hR hci hlt hc 
      by_cases hbig : 1114111 < c
      · have d1 : decide ((c : Int) > 1114111) = true := decide_eq_true (by omega)
        have hfin : Hid (∀ q, AnF wr R (.returned (.tuple #[.int .i64 0, .int .i64 0])) (wr.drewN q)) := hide1 fun q => ⟨by rw [hR2.out]; unfold fend; rw [if_pos (.inl (.inl hbig))]; rfl, below_drewNv (Below.refl _ _) q⟩
        clear hR2 hbig hcm hall
        go_wp2_with fail
        go_quiet (fail)
        go_wp2
        go_ret2
        exact hfin.out _
      · have d1 : decide ((c : Int) > 1114111) = false := decide_eq_false (by omega)
        by_cases hsur : 55296 ≤ c ∧ c ≤ 57343
        · have d2 : decide ((c : Int) ≥ 55296) = true := decide_eq_true (by omega)
          have d3 : decide ((c : Int) ≤ 57343) = true := decide_eq_true (by omega)
          have hfin : Hid (∀ q, AnF wr R (.returned (.tuple #[.int .i64 0, .int .i64 0])) (wr.drewN q)) := hide1 fun q => ⟨by rw [hR2.out]; unfold fend; rw [if_pos (.inl (.inr hsur))]; rfl, below_drewNv (Below.refl _ _) q⟩
          clear hR2 hbig hsur hcm hall
          go_wp2_with fail
          go_quiet (fail)
          go_wp2
          go_ret2
          exact hfin.out _
        · have hsg := hide1 (fun wa : World => rsign_d (c := c) (by omega) (w := wa))
          have hA2 := hide1 (fun (wa : World) (hb : Below wr.heap.size wr wa) => conv_b ((hall.out.bl hb).take (k := 1) (by simp only [List.length_cons]; have := hN.out; omega) cap))
          have hnd : ¬ bdc c := fun h => h.elim hbig hsur
          have hfin : Hid (∀ wa, Below wr.heap.size wr wa → AnF wr R (.returned (.tuple #[.int .i64 (if sgn c = (x :: m).take 1 then c else 0 : Nat), .int .i64 (if sgn c = (x :: m).take 1 then 1 else 0 : Nat)])) wa) := hide1 fun wa hb => ⟨by
            rw [hR2.out]; unfold fend
            by_cases hq : sgn c = (x :: m).take 1
            · rw [if_pos hq, if_pos hq, if_neg (fun h => h.elim hnd (fun h => h hq))]
            · rw [if_neg hq, if_neg hq, if_pos (.inr hq)], hb⟩
          generalize hsgc : sgn c = sg at *
          generalize (x :: m).take 1 = tl at *
          by_cases hs2 : 55296 ≤ c
          · have d2 : decide ((c : Int) ≥ 55296) = true := decide_eq_true (by omega)
            have d3 : decide ((c : Int) ≤ 57343) = false := decide_eq_false (by omega)
            clear hR2 hbig hsur hcm hall hnd hs2
            go_upto_region 22 with fail
            refine wp_flowG 19 _ _ (by kernel_rfl) (by kernel_rfl) (by kernel_rfl) rfl (fun j v w => if j = 12 then (fun v w => BsA w v sg) v w else v = ([(.int .i64 (c : Nat)), (.bool false), (.bool false), (.int .i64 (c : Nat)), (.bool true), (.bool true), (.int .i64 (c : Nat)), (.bool false), (.bool false), (.bool false), (.bool false), (.int .i64 (c : Nat)), undef, (.string (st sg)), (.slice (some ⟨b, o, none⟩) (N + 1) cap), (.int .i64 1), (.slice (some ⟨b, o, none⟩) 1 cap), (.string (st tl)), (.bool (!decide (sg = tl))), (.bool (!decide (sg = tl)))] : List Value).getD j undef) (fun j v w w' h hb => by
                  by_cases e12 : j = 12
                  · subst e12; exact BsA.bl (l := sg) h hb
                  · simp only [if_neg e12] at h ⊢; exact h
                  ) ?_ ?_
            · intro j op hop hj a wa hwa hsz hsl hdep K hK
              match j, hop with
              | 0, hop =>
                obtain rfl := Option.some.inj hop
                have p4 : a.tmps.getD 4 undef = (.int .i64 (c : Nat)) := hsl 4 rfl
                exact .plain rfl (wp_val (w' := wa) (v := (.int .i64 (c : Nat))) (by simp only [execOp, Act.eval]; rw [show a.tmps.getD 4 undef = _ from p4]; rfl) (hK _ _ (Below.refl _ _) rfl))
              | 1, hop =>
                obtain rfl := Option.some.inj hop
                have t0 : a.tmps.getD 72 undef = (.int .i64 (c : Nat)) := hdep 0 _ 72 rfl rfl ⟨⟨0, .data⟩, by simp, rfl, rfl⟩
                exact .plain rfl (wp_val (w' := wa) (v := (.bool false)) (by simp only [execOp, Act.eval]; rw [show a.tmps.getD 72 undef = _ from t0]; simp only [Sem.run_bind, eg_gt, bi_gt, d1, Result.andThen_ok, Sem.run_pure]) (hK _ _ (Below.refl _ _) rfl))
              | 2, hop =>
                obtain rfl := Option.some.inj hop
                have t1 : a.tmps.getD 73 undef = (.bool false) := hdep 1 _ 73 rfl rfl ⟨⟨1, .data⟩, by simp, rfl, rfl⟩
                exact .plain rfl (wp_val (w' := wa) (v := (.bool false)) (by simp only [execOp, Act.eval]; rw [show a.tmps.getD 73 undef = _ from t1]; rfl) (hK _ _ (Below.refl _ _) rfl))
              | 3, hop =>
                obtain rfl := Option.some.inj hop
                have gg : a.tmps.getD 74 undef = (.bool false) := hdep 2 _ 74 rfl rfl ⟨⟨2, .guard⟩, by simp, rfl, rfl⟩
                have p4 : a.tmps.getD 4 undef = (.int .i64 (c : Nat)) := hsl 4 rfl
                exact .want rfl rfl (by rw [hsz]; simp) gg (wp_val (w' := wa) (v := (.int .i64 (c : Nat))) (by simp only [execOp, Act.eval]; rw [show a.tmps.getD 4 undef = _ from p4]; rfl) (hK _ _ (Below.refl _ _) rfl))
              | 4, hop =>
                obtain rfl := Option.some.inj hop
                have gg : a.tmps.getD 74 undef = (.bool false) := hdep 2 _ 74 rfl rfl ⟨⟨2, .guard⟩, by simp, rfl, rfl⟩
                have t3 : a.tmps.getD 75 undef = (.int .i64 (c : Nat)) := hdep 3 _ 75 rfl rfl ⟨⟨3, .data⟩, by simp, rfl, rfl⟩
                exact .want rfl rfl (by rw [hsz]; simp) gg (wp_val (w' := wa) (v := (.bool true)) (by simp only [execOp, Act.eval]; rw [show a.tmps.getD 75 undef = _ from t3]; simp only [Sem.run_bind, eg_ge, bi_ge, d2, Result.andThen_ok, Sem.run_pure]) (hK _ _ (Below.refl _ _) rfl))
              | 5, hop =>
                obtain rfl := Option.some.inj hop
                have gg : a.tmps.getD 74 undef = (.bool false) := hdep 2 _ 74 rfl rfl ⟨⟨2, .guard⟩, by simp, rfl, rfl⟩
                have t4 : a.tmps.getD 76 undef = (.bool true) := hdep 4 _ 76 rfl rfl ⟨⟨4, .data⟩, by simp, rfl, rfl⟩
                exact .want rfl rfl (by rw [hsz]; simp) gg (wp_val (w' := wa) (v := (.bool true)) (by simp only [execOp, Act.eval]; rw [show a.tmps.getD 76 undef = _ from t4]; rfl) (hK _ _ (Below.refl _ _) rfl))
              | 6, hop =>
                obtain rfl := Option.some.inj hop
                have gg : a.tmps.getD 77 undef = (.bool true) := hdep 5 _ 77 rfl rfl ⟨⟨5, .guard⟩, by simp, rfl, rfl⟩
                have p4 : a.tmps.getD 4 undef = (.int .i64 (c : Nat)) := hsl 4 rfl
                exact .want rfl rfl (by rw [hsz]; simp) gg (wp_val (w' := wa) (v := (.int .i64 (c : Nat))) (by simp only [execOp, Act.eval]; rw [show a.tmps.getD 4 undef = _ from p4]; rfl) (hK _ _ (Below.refl _ _) rfl))
              | 7, hop =>
                obtain rfl := Option.some.inj hop
                have gg : a.tmps.getD 77 undef = (.bool true) := hdep 5 _ 77 rfl rfl ⟨⟨5, .guard⟩, by simp, rfl, rfl⟩
                have t6 : a.tmps.getD 78 undef = (.int .i64 (c : Nat)) := hdep 6 _ 78 rfl rfl ⟨⟨6, .data⟩, by simp, rfl, rfl⟩
                exact .want rfl rfl (by rw [hsz]; simp) gg (wp_val (w' := wa) (v := (.bool false)) (by simp only [execOp, Act.eval]; rw [show a.tmps.getD 78 undef = _ from t6]; simp only [Sem.run_bind, eg_le, bi_le, d3, Result.andThen_ok, Sem.run_pure]) (hK _ _ (Below.refl _ _) rfl))
              | 8, hop =>
                obtain rfl := Option.some.inj hop
                have gg : a.tmps.getD 74 undef = (.bool false) := hdep 2 _ 74 rfl rfl ⟨⟨2, .guard⟩, by simp, rfl, rfl⟩
                have t5 : a.tmps.getD 77 undef = (.bool true) := hdep 5 _ 77 rfl rfl ⟨⟨5, .data⟩, by simp, rfl, rfl⟩
                have t7 : a.tmps.getD 79 undef = (.bool false) := hdep 7 _ 79 rfl rfl ⟨⟨7, .data⟩, by simp, rfl, rfl⟩
                exact .want rfl rfl (by rw [hsz]; simp) gg (wp_val (w' := wa) (v := (.bool false)) (by simp only [execOp, Act.eval]; rw [show a.tmps.getD 77 undef = _ from t5, show a.tmps.getD 79 undef = _ from t7]; rfl) (hK _ _ (Below.refl _ _) rfl))
              | 9, hop =>
                obtain rfl := Option.some.inj hop
                have t2 : a.tmps.getD 74 undef = (.bool false) := hdep 2 _ 74 rfl rfl ⟨⟨2, .data⟩, by simp, rfl, rfl⟩
                have t8 : a.tmps.getD 80 undef = (.bool false) := hdep 8 _ 80 rfl rfl ⟨⟨8, .data⟩, by simp, rfl, rfl⟩
                exact .plain rfl (wp_val (w' := wa) (v := (.bool false)) (by simp only [execOp, Act.eval]; rw [show a.tmps.getD 74 undef = _ from t2, show a.tmps.getD 80 undef = _ from t8]; rfl) (hK _ _ (Below.refl _ _) rfl))
              | 10, hop =>
                obtain rfl := Option.some.inj hop
                have t9 : a.tmps.getD 81 undef = (.bool false) := hdep 9 _ 81 rfl rfl ⟨⟨9, .data⟩, by simp, rfl, rfl⟩
                exact .plain rfl (wp_val (w' := wa) (v := (.bool false)) (by simp only [execOp, Act.eval]; rw [show a.tmps.getD 81 undef = _ from t9]; rfl) (hK _ _ (Below.refl _ _) rfl))
              | 11, hop =>
                obtain rfl := Option.some.inj hop
                have gg : a.tmps.getD 82 undef = (.bool false) := hdep 10 _ 82 rfl rfl ⟨⟨10, .guard⟩, by simp, rfl, rfl⟩
                have p4 : a.tmps.getD 4 undef = (.int .i64 (c : Nat)) := hsl 4 rfl
                exact .want rfl rfl (by rw [hsz]; simp) gg (wp_val (w' := wa) (v := (.int .i64 (c : Nat))) (by simp only [execOp, Act.eval]; rw [show a.tmps.getD 4 undef = _ from p4]; rfl) (hK _ _ (Below.refl _ _) rfl))
              | 12, hop =>
                obtain rfl := Option.some.inj hop
                have gg : a.tmps.getD 82 undef = (.bool false) := hdep 10 _ 82 rfl rfl ⟨⟨10, .guard⟩, by simp, rfl, rfl⟩
                have t11 : a.tmps.getD 83 undef = (.int .i64 (c : Nat)) := hdep 11 _ 83 rfl rfl ⟨⟨11, .data⟩, by simp, rfl, rfl⟩
                refine .want rfl rfl (by rw [hsz]; simp) gg (oper_any (J := fun r w' => (fun v w => BsA w v sg) r w' ∧ Below wa.heap.size wa w') 88 #[.tmp 83] _ rfl #[(.int .i64 (c : Nat))] (by simp only [List.map_toArray, List.map_cons, List.map_nil, Act.eval]; rw [show a.tmps.getD 83 undef = _ from t11]) (fun w => by kernel_rfl) ((hsg.out wa).mono fun e w' h => ⟨_, h.1, by rw [h.2, ← hsgc]; exact bc_at, by rw [h.2]; exact below_al _⟩) ?_)
                rintro r w' ⟨hr, hb⟩
                exact hK _ _ hb hr
              | 13, hop =>
                obtain rfl := Option.some.inj hop
                have gg : a.tmps.getD 82 undef = (.bool false) := hdep 10 _ 82 rfl rfl ⟨⟨10, .guard⟩, by simp, rfl, rfl⟩
                have t12 : (fun v w => BsA w v sg) (a.tmps.getD 84 undef) wa := hdep 12 _ 84 rfl rfl ⟨⟨12, .data⟩, by simp, rfl, rfl⟩
                exact .want rfl rfl (by rw [hsz]; simp) gg (wp_val (w' := wa) (v := (.string (st sg))) (by simp only [execOp, Act.eval]; simp only [Sem.run_bind, conv_b t12, Result.andThen_ok, Sem.run_pure]) (hK _ _ (Below.refl _ _) rfl))
              | 14, hop =>
                obtain rfl := Option.some.inj hop
                have gg : a.tmps.getD 82 undef = (.bool false) := hdep 10 _ 82 rfl rfl ⟨⟨10, .guard⟩, by simp, rfl, rfl⟩
                have p0 : a.tmps.getD 0 undef = (.slice (some ⟨b, o, none⟩) (N + 1) cap) := hsl 0 rfl
                exact .want rfl rfl (by rw [hsz]; simp) gg (wp_val (w' := wa) (v := (.slice (some ⟨b, o, none⟩) (N + 1) cap)) (by simp only [execOp, Act.eval]; rw [show a.tmps.getD 0 undef = _ from p0]; rfl) (hK _ _ (Below.refl _ _) rfl))
              | 15, hop =>
                obtain rfl := Option.some.inj hop
                have gg : a.tmps.getD 82 undef = (.bool false) := hdep 10 _ 82 rfl rfl ⟨⟨10, .guard⟩, by simp, rfl, rfl⟩
                have p5 : a.tmps.getD 5 undef = (.int .i64 1) := hsl 5 rfl
                exact .want rfl rfl (by rw [hsz]; simp) gg (wp_val (w' := wa) (v := (.int .i64 1)) (by simp only [execOp, Act.eval]; rw [show a.tmps.getD 5 undef = _ from p5]; rfl) (hK _ _ (Below.refl _ _) rfl))
              | 16, hop =>
                obtain rfl := Option.some.inj hop
                have gg : a.tmps.getD 82 undef = (.bool false) := hdep 10 _ 82 rfl rfl ⟨⟨10, .guard⟩, by simp, rfl, rfl⟩
                have t14 : a.tmps.getD 86 undef = (.slice (some ⟨b, o, none⟩) (N + 1) cap) := hdep 14 _ 86 rfl rfl ⟨⟨14, .data⟩, by simp, rfl, rfl⟩
                have t15 : a.tmps.getD 87 undef = (.int .i64 1) := hdep 15 _ 87 rfl rfl ⟨⟨15, .data⟩, by simp, rfl, rfl⟩
                exact .want rfl rfl (by rw [hsz]; simp) gg (wp_val (w' := wa) (v := (.slice (some ⟨b, o, none⟩) 1 cap)) (by simp only [execOp, Act.eval, Option.map_some, Option.map_none]; rw [show a.tmps.getD 86 undef = _ from t14, show a.tmps.getD 87 undef = _ from t15]; simp only [Sem.run_bind, sl_to (k := 1) (i := 1) rfl (show 1 ≤ cap by omega), Result.andThen_ok, Sem.run_pure]) (hK _ _ (Below.refl _ _) rfl))
              | 17, hop =>
                obtain rfl := Option.some.inj hop
                have gg : a.tmps.getD 82 undef = (.bool false) := hdep 10 _ 82 rfl rfl ⟨⟨10, .guard⟩, by simp, rfl, rfl⟩
                have t16 : a.tmps.getD 88 undef = (.slice (some ⟨b, o, none⟩) 1 cap) := hdep 16 _ 88 rfl rfl ⟨⟨16, .data⟩, by simp, rfl, rfl⟩
                exact .want rfl rfl (by rw [hsz]; simp) gg (wp_val (w' := wa) (v := (.string (st tl))) (by simp only [execOp, Act.eval]; rw [show a.tmps.getD 88 undef = _ from t16]; simp only [Sem.run_bind, hA2.out wa hwa, Result.andThen_ok, Sem.run_pure]) (hK _ _ (Below.refl _ _) rfl))
              | 18, hop =>
                obtain rfl := Option.some.inj hop
                have gg : a.tmps.getD 82 undef = (.bool false) := hdep 10 _ 82 rfl rfl ⟨⟨10, .guard⟩, by simp, rfl, rfl⟩
                have t13 : a.tmps.getD 85 undef = (.string (st sg)) := hdep 13 _ 85 rfl rfl ⟨⟨13, .data⟩, by simp, rfl, rfl⟩
                have t17 : a.tmps.getD 89 undef = (.string (st tl)) := hdep 17 _ 89 rfl rfl ⟨⟨17, .data⟩, by simp, rfl, rfl⟩
                exact .want rfl rfl (by rw [hsz]; simp) gg (wp_val (w' := wa) (v := (.bool (!decide (sg = tl)))) (by simp only [execOp, Act.eval]; rw [show a.tmps.getD 85 undef = _ from t13, show a.tmps.getD 89 undef = _ from t17]; simp only [Sem.run_bind, eg_s, str_ne, Result.andThen_ok, Sem.run_pure]) (hK _ _ (Below.refl _ _) rfl))
              | 19, _ => exact absurd rfl hj
              | _ + 20, hop => exact absurd hop (by simp)
            · intro a wa hwa hdf hsz hsl hrr K hK
              have t10 : a.tmps.getD 82 undef = (.bool false) := hrr 10 _ 82 rfl (by decide) rfl
              have t18 : a.tmps.getD 90 undef = (.bool (!decide (sg = tl))) := hrr 18 _ 90 rfl (by decide) rfl
              refine .plain rfl (wp_val (w' := wa) (v := (.bool (!decide (sg = tl)))) (by simp only [execOp, Act.eval]; rw [show a.tmps.getD 82 undef = _ from t10, show a.tmps.getD 90 undef = _ from t18]; rfl) ?_)
              refine hK _ wa ?_
              have hact := act_puts hdf hsz hsl
              clear hrr hsl hdf hsz hK t10 t18
              simp only [List.filterMap_cons, List.filterMap_nil, List.foldl_cons, List.foldl_nil] at hact
              rw [hact]
              generalize a.tmps.getD 72 undef = y72
              generalize a.tmps.getD 73 undef = y73
              generalize a.tmps.getD 74 undef = y74
              generalize a.tmps.getD 75 undef = y75
              generalize a.tmps.getD 76 undef = y76
              generalize a.tmps.getD 77 undef = y77
              generalize a.tmps.getD 78 undef = y78
              generalize a.tmps.getD 79 undef = y79
              generalize a.tmps.getD 80 undef = y80
              generalize a.tmps.getD 81 undef = y81
              generalize a.tmps.getD 82 undef = y82
              generalize a.tmps.getD 83 undef = y83
              generalize a.tmps.getD 84 undef = y84
              generalize a.tmps.getD 85 undef = y85
              generalize a.tmps.getD 86 undef = y86
              generalize a.tmps.getD 87 undef = y87
              generalize a.tmps.getD 88 undef = y88
              generalize a.tmps.getD 89 undef = y89
              generalize a.tmps.getD 90 undef = y90
              clear hact
              simp only [Act.put, List.setIfInBounds_toArray, List.set_cons_succ, List.set_cons_zero]
              have hf2 := hide1 (hfin.out wa hwa)
              clear hfin hsg hA2 hwa
              by_cases hq : sg = tl
              · have hd : (!decide (sg = tl)) = false := by rw [decide_eq_true hq]; rfl
                rw [if_pos hq, if_pos hq] at hf2
                rw [hd]
                clear hd hq
                go_wp2
                go_ret2
                exact hf2.out
              · have hd : (!decide (sg = tl)) = true := by rw [decide_eq_false hq]; rfl
                rw [if_neg hq, if_neg hq] at hf2
                rw [hd]
                clear hd hq
                go_wp2
                go_ret2
                exact hf2.out
          · have d2 : decide ((c : Int) ≥ 55296) = false := decide_eq_false (by omega)
            clear hR2 hbig hsur hcm hall hnd hs2
            go_upto_region 22 with fail
            refine wp_flowG 19 _ _ (by kernel_rfl) (by kernel_rfl) (by kernel_rfl) rfl (fun j v w => if j = 12 then (fun v w => BsA w v sg) v w else v = ([(.int .i64 (c : Nat)), (.bool false), (.bool false), (.int .i64 (c : Nat)), (.bool false), (.bool false), undef, undef, (.bool false), (.bool false), (.bool false), (.int .i64 (c : Nat)), undef, (.string (st sg)), (.slice (some ⟨b, o, none⟩) (N + 1) cap), (.int .i64 1), (.slice (some ⟨b, o, none⟩) 1 cap), (.string (st tl)), (.bool (!decide (sg = tl))), (.bool (!decide (sg = tl)))] : List Value).getD j undef) (fun j v w w' h hb => by
                  by_cases e12 : j = 12
                  · subst e12; exact BsA.bl (l := sg) h hb
                  · simp only [if_neg e12] at h ⊢; exact h
                  ) ?_ ?_
            · intro j op hop hj a wa hwa hsz hsl hdep K hK
              match j, hop with
              | 0, hop =>
                obtain rfl := Option.some.inj hop
                have p4 : a.tmps.getD 4 undef = (.int .i64 (c : Nat)) := hsl 4 rfl
                exact .plain rfl (wp_val (w' := wa) (v := (.int .i64 (c : Nat))) (by simp only [execOp, Act.eval]; rw [show a.tmps.getD 4 undef = _ from p4]; rfl) (hK _ _ (Below.refl _ _) rfl))
              | 1, hop =>
                obtain rfl := Option.some.inj hop
                have t0 : a.tmps.getD 72 undef = (.int .i64 (c : Nat)) := hdep 0 _ 72 rfl rfl ⟨⟨0, .data⟩, by simp, rfl, rfl⟩
                exact .plain rfl (wp_val (w' := wa) (v := (.bool false)) (by simp only [execOp, Act.eval]; rw [show a.tmps.getD 72 undef = _ from t0]; simp only [Sem.run_bind, eg_gt, bi_gt, d1, Result.andThen_ok, Sem.run_pure]) (hK _ _ (Below.refl _ _) rfl))
              | 2, hop =>
                obtain rfl := Option.some.inj hop
                have t1 : a.tmps.getD 73 undef = (.bool false) := hdep 1 _ 73 rfl rfl ⟨⟨1, .data⟩, by simp, rfl, rfl⟩
                exact .plain rfl (wp_val (w' := wa) (v := (.bool false)) (by simp only [execOp, Act.eval]; rw [show a.tmps.getD 73 undef = _ from t1]; rfl) (hK _ _ (Below.refl _ _) rfl))
              | 3, hop =>
                obtain rfl := Option.some.inj hop
                have gg : a.tmps.getD 74 undef = (.bool false) := hdep 2 _ 74 rfl rfl ⟨⟨2, .guard⟩, by simp, rfl, rfl⟩
                have p4 : a.tmps.getD 4 undef = (.int .i64 (c : Nat)) := hsl 4 rfl
                exact .want rfl rfl (by rw [hsz]; simp) gg (wp_val (w' := wa) (v := (.int .i64 (c : Nat))) (by simp only [execOp, Act.eval]; rw [show a.tmps.getD 4 undef = _ from p4]; rfl) (hK _ _ (Below.refl _ _) rfl))
              | 4, hop =>
                obtain rfl := Option.some.inj hop
                have gg : a.tmps.getD 74 undef = (.bool false) := hdep 2 _ 74 rfl rfl ⟨⟨2, .guard⟩, by simp, rfl, rfl⟩
                have t3 : a.tmps.getD 75 undef = (.int .i64 (c : Nat)) := hdep 3 _ 75 rfl rfl ⟨⟨3, .data⟩, by simp, rfl, rfl⟩
                exact .want rfl rfl (by rw [hsz]; simp) gg (wp_val (w' := wa) (v := (.bool false)) (by simp only [execOp, Act.eval]; rw [show a.tmps.getD 75 undef = _ from t3]; simp only [Sem.run_bind, eg_ge, bi_ge, d2, Result.andThen_ok, Sem.run_pure]) (hK _ _ (Below.refl _ _) rfl))
              | 5, hop =>
                obtain rfl := Option.some.inj hop
                have gg : a.tmps.getD 74 undef = (.bool false) := hdep 2 _ 74 rfl rfl ⟨⟨2, .guard⟩, by simp, rfl, rfl⟩
                have t4 : a.tmps.getD 76 undef = (.bool false) := hdep 4 _ 76 rfl rfl ⟨⟨4, .data⟩, by simp, rfl, rfl⟩
                exact .want rfl rfl (by rw [hsz]; simp) gg (wp_val (w' := wa) (v := (.bool false)) (by simp only [execOp, Act.eval]; rw [show a.tmps.getD 76 undef = _ from t4]; rfl) (hK _ _ (Below.refl _ _) rfl))
              | 6, hop =>
                obtain rfl := Option.some.inj hop
                have gg : a.tmps.getD 77 undef = (.bool false) := hdep 5 _ 77 rfl rfl ⟨⟨5, .guard⟩, by simp, rfl, rfl⟩
                exact .skip rfl rfl (by rw [hsz]; simp) gg (hK _ _ (Below.refl _ _) rfl)
              | 7, hop =>
                obtain rfl := Option.some.inj hop
                have gg : a.tmps.getD 77 undef = (.bool false) := hdep 5 _ 77 rfl rfl ⟨⟨5, .guard⟩, by simp, rfl, rfl⟩
                exact .skip rfl rfl (by rw [hsz]; simp) gg (hK _ _ (Below.refl _ _) rfl)
              | 8, hop =>
                obtain rfl := Option.some.inj hop
                have gg : a.tmps.getD 74 undef = (.bool false) := hdep 2 _ 74 rfl rfl ⟨⟨2, .guard⟩, by simp, rfl, rfl⟩
                have t5 : a.tmps.getD 77 undef = (.bool false) := hdep 5 _ 77 rfl rfl ⟨⟨5, .data⟩, by simp, rfl, rfl⟩
                have t7 : a.tmps.getD 79 undef = undef := hdep 7 _ 79 rfl rfl ⟨⟨7, .data⟩, by simp, rfl, rfl⟩
                exact .want rfl rfl (by rw [hsz]; simp) gg (wp_val (w' := wa) (v := (.bool false)) (by simp only [execOp, Act.eval]; rw [show a.tmps.getD 77 undef = _ from t5, show a.tmps.getD 79 undef = _ from t7]; rfl) (hK _ _ (Below.refl _ _) rfl))
              | 9, hop =>
                obtain rfl := Option.some.inj hop
                have t2 : a.tmps.getD 74 undef = (.bool false) := hdep 2 _ 74 rfl rfl ⟨⟨2, .data⟩, by simp, rfl, rfl⟩
                have t8 : a.tmps.getD 80 undef = (.bool false) := hdep 8 _ 80 rfl rfl ⟨⟨8, .data⟩, by simp, rfl, rfl⟩
                exact .plain rfl (wp_val (w' := wa) (v := (.bool false)) (by simp only [execOp, Act.eval]; rw [show a.tmps.getD 74 undef = _ from t2, show a.tmps.getD 80 undef = _ from t8]; rfl) (hK _ _ (Below.refl _ _) rfl))
              | 10, hop =>
                obtain rfl := Option.some.inj hop
                have t9 : a.tmps.getD 81 undef = (.bool false) := hdep 9 _ 81 rfl rfl ⟨⟨9, .data⟩, by simp, rfl, rfl⟩
                exact .plain rfl (wp_val (w' := wa) (v := (.bool false)) (by simp only [execOp, Act.eval]; rw [show a.tmps.getD 81 undef = _ from t9]; rfl) (hK _ _ (Below.refl _ _) rfl))
              | 11, hop =>
                obtain rfl := Option.some.inj hop
                have gg : a.tmps.getD 82 undef = (.bool false) := hdep 10 _ 82 rfl rfl ⟨⟨10, .guard⟩, by simp, rfl, rfl⟩
                have p4 : a.tmps.getD 4 undef = (.int .i64 (c : Nat)) := hsl 4 rfl
                exact .want rfl rfl (by rw [hsz]; simp) gg (wp_val (w' := wa) (v := (.int .i64 (c : Nat))) (by simp only [execOp, Act.eval]; rw [show a.tmps.getD 4 undef = _ from p4]; rfl) (hK _ _ (Below.refl _ _) rfl))
              | 12, hop =>
                obtain rfl := Option.some.inj hop
                have gg : a.tmps.getD 82 undef = (.bool false) := hdep 10 _ 82 rfl rfl ⟨⟨10, .guard⟩, by simp, rfl, rfl⟩
                have t11 : a.tmps.getD 83 undef = (.int .i64 (c : Nat)) := hdep 11 _ 83 rfl rfl ⟨⟨11, .data⟩, by simp, rfl, rfl⟩
                refine .want rfl rfl (by rw [hsz]; simp) gg (oper_any (J := fun r w' => (fun v w => BsA w v sg) r w' ∧ Below wa.heap.size wa w') 88 #[.tmp 83] _ rfl #[(.int .i64 (c : Nat))] (by simp only [List.map_toArray, List.map_cons, List.map_nil, Act.eval]; rw [show a.tmps.getD 83 undef = _ from t11]) (fun w => by kernel_rfl) ((hsg.out wa).mono fun e w' h => ⟨_, h.1, by rw [h.2, ← hsgc]; exact bc_at, by rw [h.2]; exact below_al _⟩) ?_)
                rintro r w' ⟨hr, hb⟩
                exact hK _ _ hb hr
              | 13, hop =>
                obtain rfl := Option.some.inj hop
                have gg : a.tmps.getD 82 undef = (.bool false) := hdep 10 _ 82 rfl rfl ⟨⟨10, .guard⟩, by simp, rfl, rfl⟩
                have t12 : (fun v w => BsA w v sg) (a.tmps.getD 84 undef) wa := hdep 12 _ 84 rfl rfl ⟨⟨12, .data⟩, by simp, rfl, rfl⟩
                exact .want rfl rfl (by rw [hsz]; simp) gg (wp_val (w' := wa) (v := (.string (st sg))) (by simp only [execOp, Act.eval]; simp only [Sem.run_bind, conv_b t12, Result.andThen_ok, Sem.run_pure]) (hK _ _ (Below.refl _ _) rfl))
              | 14, hop =>
                obtain rfl := Option.some.inj hop
                have gg : a.tmps.getD 82 undef = (.bool false) := hdep 10 _ 82 rfl rfl ⟨⟨10, .guard⟩, by simp, rfl, rfl⟩
                have p0 : a.tmps.getD 0 undef = (.slice (some ⟨b, o, none⟩) (N + 1) cap) := hsl 0 rfl
                exact .want rfl rfl (by rw [hsz]; simp) gg (wp_val (w' := wa) (v := (.slice (some ⟨b, o, none⟩) (N + 1) cap)) (by simp only [execOp, Act.eval]; rw [show a.tmps.getD 0 undef = _ from p0]; rfl) (hK _ _ (Below.refl _ _) rfl))
              | 15, hop =>
                obtain rfl := Option.some.inj hop
                have gg : a.tmps.getD 82 undef = (.bool false) := hdep 10 _ 82 rfl rfl ⟨⟨10, .guard⟩, by simp, rfl, rfl⟩
                have p5 : a.tmps.getD 5 undef = (.int .i64 1) := hsl 5 rfl
                exact .want rfl rfl (by rw [hsz]; simp) gg (wp_val (w' := wa) (v := (.int .i64 1)) (by simp only [execOp, Act.eval]; rw [show a.tmps.getD 5 undef = _ from p5]; rfl) (hK _ _ (Below.refl _ _) rfl))
              | 16, hop =>
                obtain rfl := Option.some.inj hop
                have gg : a.tmps.getD 82 undef = (.bool false) := hdep 10 _ 82 rfl rfl ⟨⟨10, .guard⟩, by simp, rfl, rfl⟩
                have t14 : a.tmps.getD 86 undef = (.slice (some ⟨b, o, none⟩) (N + 1) cap) := hdep 14 _ 86 rfl rfl ⟨⟨14, .data⟩, by simp, rfl, rfl⟩
                have t15 : a.tmps.getD 87 undef = (.int .i64 1) := hdep 15 _ 87 rfl rfl ⟨⟨15, .data⟩, by simp, rfl, rfl⟩
                exact .want rfl rfl (by rw [hsz]; simp) gg (wp_val (w' := wa) (v := (.slice (some ⟨b, o, none⟩) 1 cap)) (by simp only [execOp, Act.eval, Option.map_some, Option.map_none]; rw [show a.tmps.getD 86 undef = _ from t14, show a.tmps.getD 87 undef = _ from t15]; simp only [Sem.run_bind, sl_to (k := 1) (i := 1) rfl (show 1 ≤ cap by omega), Result.andThen_ok, Sem.run_pure]) (hK _ _ (Below.refl _ _) rfl))
              | 17, hop =>
                obtain rfl := Option.some.inj hop
                have gg : a.tmps.getD 82 undef = (.bool false) := hdep 10 _ 82 rfl rfl ⟨⟨10, .guard⟩, by simp, rfl, rfl⟩
                have t16 : a.tmps.getD 88 undef = (.slice (some ⟨b, o, none⟩) 1 cap) := hdep 16 _ 88 rfl rfl ⟨⟨16, .data⟩, by simp, rfl, rfl⟩
                exact .want rfl rfl (by rw [hsz]; simp) gg (wp_val (w' := wa) (v := (.string (st tl))) (by simp only [execOp, Act.eval]; rw [show a.tmps.getD 88 undef = _ from t16]; simp only [Sem.run_bind, hA2.out wa hwa, Result.andThen_ok, Sem.run_pure]) (hK _ _ (Below.refl _ _) rfl))
              | 18, hop =>
                obtain rfl := Option.some.inj hop
                have gg : a.tmps.getD 82 undef = (.bool false) := hdep 10 _ 82 rfl rfl ⟨⟨10, .guard⟩, by simp, rfl, rfl⟩
                have t13 : a.tmps.getD 85 undef = (.string (st sg)) := hdep 13 _ 85 rfl rfl ⟨⟨13, .data⟩, by simp, rfl, rfl⟩
                have t17 : a.tmps.getD 89 undef = (.string (st tl)) := hdep 17 _ 89 rfl rfl ⟨⟨17, .data⟩, by simp, rfl, rfl⟩
                exact .want rfl rfl (by rw [hsz]; simp) gg (wp_val (w' := wa) (v := (.bool (!decide (sg = tl)))) (by simp only [execOp, Act.eval]; rw [show a.tmps.getD 85 undef = _ from t13, show a.tmps.getD 89 undef = _ from t17]; simp only [Sem.run_bind, eg_s, str_ne, Result.andThen_ok, Sem.run_pure]) (hK _ _ (Below.refl _ _) rfl))
              | 19, _ => exact absurd rfl hj
              | _ + 20, hop => exact absurd hop (by simp)
            · intro a wa hwa hdf hsz hsl hrr K hK
              have t10 : a.tmps.getD 82 undef = (.bool false) := hrr 10 _ 82 rfl (by decide) rfl
              have t18 : a.tmps.getD 90 undef = (.bool (!decide (sg = tl))) := hrr 18 _ 90 rfl (by decide) rfl
              refine .plain rfl (wp_val (w' := wa) (v := (.bool (!decide (sg = tl)))) (by simp only [execOp, Act.eval]; rw [show a.tmps.getD 82 undef = _ from t10, show a.tmps.getD 90 undef = _ from t18]; rfl) ?_)
              refine hK _ wa ?_
              have hact := act_puts hdf hsz hsl
              clear hrr hsl hdf hsz hK t10 t18
              simp only [List.filterMap_cons, List.filterMap_nil, List.foldl_cons, List.foldl_nil] at hact
              rw [hact]
              generalize a.tmps.getD 72 undef = y72
              generalize a.tmps.getD 73 undef = y73
              generalize a.tmps.getD 74 undef = y74
              generalize a.tmps.getD 75 undef = y75
              generalize a.tmps.getD 76 undef = y76
              generalize a.tmps.getD 77 undef = y77
              generalize a.tmps.getD 78 undef = y78
              generalize a.tmps.getD 79 undef = y79
              generalize a.tmps.getD 80 undef = y80
              generalize a.tmps.getD 81 undef = y81
              generalize a.tmps.getD 82 undef = y82
              generalize a.tmps.getD 83 undef = y83
              generalize a.tmps.getD 84 undef = y84
              generalize a.tmps.getD 85 undef = y85
              generalize a.tmps.getD 86 undef = y86
              generalize a.tmps.getD 87 undef = y87
              generalize a.tmps.getD 88 undef = y88
              generalize a.tmps.getD 89 undef = y89
              generalize a.tmps.getD 90 undef = y90
              clear hact
              simp only [Act.put, List.setIfInBounds_toArray, List.set_cons_succ, List.set_cons_zero]
              have hf2 := hide1 (hfin.out wa hwa)
              clear hfin hsg hA2 hwa
              by_cases hq : sg = tl
              · have hd : (!decide (sg = tl)) = false := by rw [decide_eq_true hq]; rfl
                rw [if_pos hq, if_pos hq] at hf2
                rw [hd]
                clear hd hq
                go_wp2
                go_ret2
                exact hf2.out
              · have hd : (!decide (sg = tl)) = true := by rw [decide_eq_false hq]; rfl
                rw [if_neg hq, if_neg hq] at hf2
                rw [hd]
                clear hd hq
                go_wp2
                go_ret2
                exact hf2.out
set_option maxHeartbeats 16000000 in
set_option maxRecDepth 100000 in
theorem first_1b {w : World} {sa : Option Addr} {cap : Nat} {x : UInt8} {m : List UInt8} (h : BsA w (.slice sa (m.length + 1) cap) (x :: m)) (hcap : m.length + 1 ≤ cap) (h1 : 16 ≤ x.toNat) (h2 : x.toNat < 32) (_hs : 1 ≤ m.length + 1) : Calls Tryz.prog 86 #[.slice sa (m.length + 1) cap] w (AnF w (fgo 1 x.toNat (x :: m))) := by
  have hall := h
  obtain ⟨_, _, e, h⟩ := h
  cases e
  obtain ⟨b, o, rfl, hb, hc⟩ := h.resolve_left (by simp)
  have c0 : w.cell? ⟨b, o, none⟩ = some (.int .u8 (x.toNat : Nat)) := hc 0 x rfl
  have hx := x.toNat_lt
  have hR : Hid (fgo 1 x.toNat (x :: m) = match fcl x.toNat 0 m with
    | none => (0, 0)
    | some c => fend 1 c (x :: m)) := hide1 (by unfold fgo; rw [if_neg (by simp only [List.length_cons]; omega)]; rfl)
  generalize fgo 1 x.toNat (x :: m) = R at *
  obtain ⟨N, hN⟩ : ∃ N, Hid (N = m.length) := ⟨_, hide1 rfl⟩
  rw [← hN.out] at hall hcap ⊢
  replace hall := hide1 hall
  replace hc := hide1 hc
  go_enter Tryz.func86, Tryz.ntmps86
  go_wp2_with fail
  go_loopw [4, 6] (fun s4 s6 wr => ∃ c i : Nat, s4 = .int .i64 (c : Nat) ∧ s6 = .int .i64 (i : Nat) ∧ ((i = 1 ∧ c < 128)) ∧ wr = w ∧ Hid (fcl c (1 - i) (m.drop (i - 1)) = fcl x.toNat 0 m)) (fun _ s6 _ => 1 - (intOf s6).toNat)
  case atStart => exact ⟨x.toNat, 1, by first | rfl | (congr 1; omega), rfl, by omega, rfl, hide1 rfl⟩
  case round =>
    obtain ⟨c, i, rfl, rfl, hci, rfl, hme⟩ := hrel
    by_cases hlt : i < 1
    · exfalso; omega
    · have hi : i = 1 := by omega
      subst hi
      have hme2 : fcl x.toNat 0 m = some c := by rw [← hme.out]; rfl
      have hR2 : Hid (R = fend 1 c (x :: m)) := hide1 (by rw [hR.out, hme2])
      have hcm : c < 8388608 := by omega
      clear hme hme2 hR hci hlt hc 
      by_cases hbig : 1114111 < c
      · have d1 : decide ((c : Int) > 1114111) = true := decide_eq_true (by omega)
        have hfin : Hid (∀ q, AnF wr R (.returned (.tuple #[.int .i64 0, .int .i64 0])) (wr.drewN q)) := hide1 fun q => ⟨by rw [hR2.out]; unfold fend; rw [if_pos (.inl (.inl hbig))]; rfl, below_drewNv (Below.refl _ _) q⟩
        clear hR2 hbig hcm hall
        go_wp2_with fail
        go_quiet (fail)
        go_wp2
        go_ret2
        exact hfin.out _
      · have d1 : decide ((c : Int) > 1114111) = false := decide_eq_false (by omega)
        by_cases hsur : 55296 ≤ c ∧ c ≤ 57343
        · have d2 : decide ((c : Int) ≥ 55296) = true := decide_eq_true (by omega)
          have d3 : decide ((c : Int) ≤ 57343) = true := decide_eq_true (by omega)
          have hfin : Hid (∀ q, AnF wr R (.returned (.tuple #[.int .i64 0, .int .i64 0])) (wr.drewN q)) := hide1 fun q => ⟨by rw [hR2.out]; unfold fend; rw [if_pos (.inl (.inr hsur))]; rfl, below_drewNv (Below.refl _ _) q⟩
          clear hR2 hbig hsur hcm hall
          go_wp2_with fail
          go_quiet (fail)
          go_wp2
          go_ret2
          exact hfin.out _
        · have hsg := hide1 (fun wa : World => rsign_d (c := c) (by omega) (w := wa))
          have hA2 := hide1 (fun (wa : World) (hb : Below wr.heap.size wr wa) => conv_b ((hall.out.bl hb).take (k := 1) (by simp only [List.length_cons]; have := hN.out; omega) cap))
          have hnd : ¬ bdc c := fun h => h.elim hbig hsur
          have hfin : Hid (∀ wa, Below wr.heap.size wr wa → AnF wr R (.returned (.tuple #[.int .i64 (if sgn c = (x :: m).take 1 then c else 0 : Nat), .int .i64 (if sgn c = (x :: m).take 1 then 1 else 0 : Nat)])) wa) := hide1 fun wa hb => ⟨by
            rw [hR2.out]; unfold fend
            by_cases hq : sgn c = (x :: m).take 1
            · rw [if_pos hq, if_pos hq, if_neg (fun h => h.elim hnd (fun h => h hq))]
            · rw [if_neg hq, if_neg hq, if_pos (.inr hq)], hb⟩
          generalize hsgc : sgn c = sg at *
          generalize (x :: m).take 1 = tl at *
          by_cases hs2 : 55296 ≤ c
          · have d2 : decide ((c : Int) ≥ 55296) = true := decide_eq_true (by omega)
            have d3 : decide ((c : Int) ≤ 57343) = false := decide_eq_false (by omega)
            clear hR2 hbig hsur hcm hall hnd hs2
            go_upto_region 22 with fail
            refine wp_flowG 19 _ _ (by kernel_rfl) (by kernel_rfl) (by kernel_rfl) rfl (fun j v w => if j = 12 then (fun v w => BsA w v sg) v w else v = ([(.int .i64 (c : Nat)), (.bool false), (.bool false), (.int .i64 (c : Nat)), (.bool true), (.bool true), (.int .i64 (c : Nat)), (.bool false), (.bool false), (.bool false), (.bool false), (.int .i64 (c : Nat)), undef, (.string (st sg)), (.slice (some ⟨b, o, none⟩) (N + 1) cap), (.int .i64 1), (.slice (some ⟨b, o, none⟩) 1 cap), (.string (st tl)), (.bool (!decide (sg = tl))), (.bool (!decide (sg = tl)))] : List Value).getD j undef) (fun j v w w' h hb => by
                  by_cases e12 : j = 12
                  · subst e12; exact BsA.bl (l := sg) h hb
                  · simp only [if_neg e12] at h ⊢; exact h
                  ) ?_ ?_
            · intro j op hop hj a wa hwa hsz hsl hdep K hK
              match j, hop with
              | 0, hop =>
                obtain rfl := Option.some.inj hop
                have p4 : a.tmps.getD 4 undef = (.int .i64 (c : Nat)) := hsl 4 rfl
                exact .plain rfl (wp_val (w' := wa) (v := (.int .i64 (c : Nat))) (by simp only [execOp, Act.eval]; rw [show a.tmps.getD 4 undef = _ from p4]; rfl) (hK _ _ (Below.refl _ _) rfl))
              | 1, hop =>
                obtain rfl := Option.some.inj hop
                have t0 : a.tmps.getD 72 undef = (.int .i64 (c : Nat)) := hdep 0 _ 72 rfl rfl ⟨⟨0, .data⟩, by simp, rfl, rfl⟩
                exact .plain rfl (wp_val (w' := wa) (v := (.bool false)) (by simp only [execOp, Act.eval]; rw [show a.tmps.getD 72 undef = _ from t0]; simp only [Sem.run_bind, eg_gt, bi_gt, d1, Result.andThen_ok, Sem.run_pure]) (hK _ _ (Below.refl _ _) rfl))
              | 2, hop =>
                obtain rfl := Option.some.inj hop
                have t1 : a.tmps.getD 73 undef = (.bool false) := hdep 1 _ 73 rfl rfl ⟨⟨1, .data⟩, by simp, rfl, rfl⟩
                exact .plain rfl (wp_val (w' := wa) (v := (.bool false)) (by simp only [execOp, Act.eval]; rw [show a.tmps.getD 73 undef = _ from t1]; rfl) (hK _ _ (Below.refl _ _) rfl))
              | 3, hop =>
                obtain rfl := Option.some.inj hop
                have gg : a.tmps.getD 74 undef = (.bool false) := hdep 2 _ 74 rfl rfl ⟨⟨2, .guard⟩, by simp, rfl, rfl⟩
                have p4 : a.tmps.getD 4 undef = (.int .i64 (c : Nat)) := hsl 4 rfl
                exact .want rfl rfl (by rw [hsz]; simp) gg (wp_val (w' := wa) (v := (.int .i64 (c : Nat))) (by simp only [execOp, Act.eval]; rw [show a.tmps.getD 4 undef = _ from p4]; rfl) (hK _ _ (Below.refl _ _) rfl))
              | 4, hop =>
                obtain rfl := Option.some.inj hop
                have gg : a.tmps.getD 74 undef = (.bool false) := hdep 2 _ 74 rfl rfl ⟨⟨2, .guard⟩, by simp, rfl, rfl⟩
                have t3 : a.tmps.getD 75 undef = (.int .i64 (c : Nat)) := hdep 3 _ 75 rfl rfl ⟨⟨3, .data⟩, by simp, rfl, rfl⟩
                exact .want rfl rfl (by rw [hsz]; simp) gg (wp_val (w' := wa) (v := (.bool true)) (by simp only [execOp, Act.eval]; rw [show a.tmps.getD 75 undef = _ from t3]; simp only [Sem.run_bind, eg_ge, bi_ge, d2, Result.andThen_ok, Sem.run_pure]) (hK _ _ (Below.refl _ _) rfl))
              | 5, hop =>
                obtain rfl := Option.some.inj hop
                have gg : a.tmps.getD 74 undef = (.bool false) := hdep 2 _ 74 rfl rfl ⟨⟨2, .guard⟩, by simp, rfl, rfl⟩
                have t4 : a.tmps.getD 76 undef = (.bool true) := hdep 4 _ 76 rfl rfl ⟨⟨4, .data⟩, by simp, rfl, rfl⟩
                exact .want rfl rfl (by rw [hsz]; simp) gg (wp_val (w' := wa) (v := (.bool true)) (by simp only [execOp, Act.eval]; rw [show a.tmps.getD 76 undef = _ from t4]; rfl) (hK _ _ (Below.refl _ _) rfl))
              | 6, hop =>
                obtain rfl := Option.some.inj hop
                have gg : a.tmps.getD 77 undef = (.bool true) := hdep 5 _ 77 rfl rfl ⟨⟨5, .guard⟩, by simp, rfl, rfl⟩
                have p4 : a.tmps.getD 4 undef = (.int .i64 (c : Nat)) := hsl 4 rfl
                exact .want rfl rfl (by rw [hsz]; simp) gg (wp_val (w' := wa) (v := (.int .i64 (c : Nat))) (by simp only [execOp, Act.eval]; rw [show a.tmps.getD 4 undef = _ from p4]; rfl) (hK _ _ (Below.refl _ _) rfl))
              | 7, hop =>
                obtain rfl := Option.some.inj hop
                have gg : a.tmps.getD 77 undef = (.bool true) := hdep 5 _ 77 rfl rfl ⟨⟨5, .guard⟩, by simp, rfl, rfl⟩
                have t6 : a.tmps.getD 78 undef = (.int .i64 (c : Nat)) := hdep 6 _ 78 rfl rfl ⟨⟨6, .data⟩, by simp, rfl, rfl⟩
                exact .want rfl rfl (by rw [hsz]; simp) gg (wp_val (w' := wa) (v := (.bool false)) (by simp only [execOp, Act.eval]; rw [show a.tmps.getD 78 undef = _ from t6]; simp only [Sem.run_bind, eg_le, bi_le, d3, Result.andThen_ok, Sem.run_pure]) (hK _ _ (Below.refl _ _) rfl))
              | 8, hop =>
                obtain rfl := Option.some.inj hop
                have gg : a.tmps.getD 74 undef = (.bool false) := hdep 2 _ 74 rfl rfl ⟨⟨2, .guard⟩, by simp, rfl, rfl⟩
                have t5 : a.tmps.getD 77 undef = (.bool true) := hdep 5 _ 77 rfl rfl ⟨⟨5, .data⟩, by simp, rfl, rfl⟩
                have t7 : a.tmps.getD 79 undef = (.bool false) := hdep 7 _ 79 rfl rfl ⟨⟨7, .data⟩, by simp, rfl, rfl⟩
                exact .want rfl rfl (by rw [hsz]; simp) gg (wp_val (w' := wa) (v := (.bool false)) (by simp only [execOp, Act.eval]; rw [show a.tmps.getD 77 undef = _ from t5, show a.tmps.getD 79 undef = _ from t7]; rfl) (hK _ _ (Below.refl _ _) rfl))
              | 9, hop =>
                obtain rfl := Option.some.inj hop
                have t2 : a.tmps.getD 74 undef = (.bool false) := hdep 2 _ 74 rfl rfl ⟨⟨2, .data⟩, by simp, rfl, rfl⟩
                have t8 : a.tmps.getD 80 undef = (.bool false) := hdep 8 _ 80 rfl rfl ⟨⟨8, .data⟩, by simp, rfl, rfl⟩
                exact .plain rfl (wp_val (w' := wa) (v := (.bool false)) (by simp only [execOp, Act.eval]; rw [show a.tmps.getD 74 undef = _ from t2, show a.tmps.getD 80 undef = _ from t8]; rfl) (hK _ _ (Below.refl _ _) rfl))
              | 10, hop =>
                obtain rfl := Option.some.inj hop
                have t9 : a.tmps.getD 81 undef = (.bool false) := hdep 9 _ 81 rfl rfl ⟨⟨9, .data⟩, by simp, rfl, rfl⟩
                exact .plain rfl (wp_val (w' := wa) (v := (.bool false)) (by simp only [execOp, Act.eval]; rw [show a.tmps.getD 81 undef = _ from t9]; rfl) (hK _ _ (Below.refl _ _) rfl))
              | 11, hop =>
                obtain rfl := Option.some.inj hop
                have gg : a.tmps.getD 82 undef = (.bool false) := hdep 10 _ 82 rfl rfl ⟨⟨10, .guard⟩, by simp, rfl, rfl⟩
                have p4 : a.tmps.getD 4 undef = (.int .i64 (c : Nat)) := hsl 4 rfl
                exact .want rfl rfl (by rw [hsz]; simp) gg (wp_val (w' := wa) (v := (.int .i64 (c : Nat))) (by simp only [execOp, Act.eval]; rw [show a.tmps.getD 4 undef = _ from p4]; rfl) (hK _ _ (Below.refl _ _) rfl))
              | 12, hop =>
                obtain rfl := Option.some.inj hop
                have gg : a.tmps.getD 82 undef = (.bool false) := hdep 10 _ 82 rfl rfl ⟨⟨10, .guard⟩, by simp, rfl, rfl⟩
                have t11 : a.tmps.getD 83 undef = (.int .i64 (c : Nat)) := hdep 11 _ 83 rfl rfl ⟨⟨11, .data⟩, by simp, rfl, rfl⟩
                refine .want rfl rfl (by rw [hsz]; simp) gg (oper_any (J := fun r w' => (fun v w => BsA w v sg) r w' ∧ Below wa.heap.size wa w') 88 #[.tmp 83] _ rfl #[(.int .i64 (c : Nat))] (by simp only [List.map_toArray, List.map_cons, List.map_nil, Act.eval]; rw [show a.tmps.getD 83 undef = _ from t11]) (fun w => by kernel_rfl) ((hsg.out wa).mono fun e w' h => ⟨_, h.1, by rw [h.2, ← hsgc]; exact bc_at, by rw [h.2]; exact below_al _⟩) ?_)
                rintro r w' ⟨hr, hb⟩
                exact hK _ _ hb hr
              | 13, hop =>
                obtain rfl := Option.some.inj hop
                have gg : a.tmps.getD 82 undef = (.bool false) := hdep 10 _ 82 rfl rfl ⟨⟨10, .guard⟩, by simp, rfl, rfl⟩
                have t12 : (fun v w => BsA w v sg) (a.tmps.getD 84 undef) wa := hdep 12 _ 84 rfl rfl ⟨⟨12, .data⟩, by simp, rfl, rfl⟩
                exact .want rfl rfl (by rw [hsz]; simp) gg (wp_val (w' := wa) (v := (.string (st sg))) (by simp only [execOp, Act.eval]; simp only [Sem.run_bind, conv_b t12, Result.andThen_ok, Sem.run_pure]) (hK _ _ (Below.refl _ _) rfl))
              | 14, hop =>
                obtain rfl := Option.some.inj hop
                have gg : a.tmps.getD 82 undef = (.bool false) := hdep 10 _ 82 rfl rfl ⟨⟨10, .guard⟩, by simp, rfl, rfl⟩
                have p0 : a.tmps.getD 0 undef = (.slice (some ⟨b, o, none⟩) (N + 1) cap) := hsl 0 rfl
                exact .want rfl rfl (by rw [hsz]; simp) gg (wp_val (w' := wa) (v := (.slice (some ⟨b, o, none⟩) (N + 1) cap)) (by simp only [execOp, Act.eval]; rw [show a.tmps.getD 0 undef = _ from p0]; rfl) (hK _ _ (Below.refl _ _) rfl))
              | 15, hop =>
                obtain rfl := Option.some.inj hop
                have gg : a.tmps.getD 82 undef = (.bool false) := hdep 10 _ 82 rfl rfl ⟨⟨10, .guard⟩, by simp, rfl, rfl⟩
                have p5 : a.tmps.getD 5 undef = (.int .i64 1) := hsl 5 rfl
                exact .want rfl rfl (by rw [hsz]; simp) gg (wp_val (w' := wa) (v := (.int .i64 1)) (by simp only [execOp, Act.eval]; rw [show a.tmps.getD 5 undef = _ from p5]; rfl) (hK _ _ (Below.refl _ _) rfl))
              | 16, hop =>
                obtain rfl := Option.some.inj hop
                have gg : a.tmps.getD 82 undef = (.bool false) := hdep 10 _ 82 rfl rfl ⟨⟨10, .guard⟩, by simp, rfl, rfl⟩
                have t14 : a.tmps.getD 86 undef = (.slice (some ⟨b, o, none⟩) (N + 1) cap) := hdep 14 _ 86 rfl rfl ⟨⟨14, .data⟩, by simp, rfl, rfl⟩
                have t15 : a.tmps.getD 87 undef = (.int .i64 1) := hdep 15 _ 87 rfl rfl ⟨⟨15, .data⟩, by simp, rfl, rfl⟩
                exact .want rfl rfl (by rw [hsz]; simp) gg (wp_val (w' := wa) (v := (.slice (some ⟨b, o, none⟩) 1 cap)) (by simp only [execOp, Act.eval, Option.map_some, Option.map_none]; rw [show a.tmps.getD 86 undef = _ from t14, show a.tmps.getD 87 undef = _ from t15]; simp only [Sem.run_bind, sl_to (k := 1) (i := 1) rfl (show 1 ≤ cap by omega), Result.andThen_ok, Sem.run_pure]) (hK _ _ (Below.refl _ _) rfl))
              | 17, hop =>
                obtain rfl := Option.some.inj hop
                have gg : a.tmps.getD 82 undef = (.bool false) := hdep 10 _ 82 rfl rfl ⟨⟨10, .guard⟩, by simp, rfl, rfl⟩
                have t16 : a.tmps.getD 88 undef = (.slice (some ⟨b, o, none⟩) 1 cap) := hdep 16 _ 88 rfl rfl ⟨⟨16, .data⟩, by simp, rfl, rfl⟩
                exact .want rfl rfl (by rw [hsz]; simp) gg (wp_val (w' := wa) (v := (.string (st tl))) (by simp only [execOp, Act.eval]; rw [show a.tmps.getD 88 undef = _ from t16]; simp only [Sem.run_bind, hA2.out wa hwa, Result.andThen_ok, Sem.run_pure]) (hK _ _ (Below.refl _ _) rfl))
              | 18, hop =>
                obtain rfl := Option.some.inj hop
                have gg : a.tmps.getD 82 undef = (.bool false) := hdep 10 _ 82 rfl rfl ⟨⟨10, .guard⟩, by simp, rfl, rfl⟩
                have t13 : a.tmps.getD 85 undef = (.string (st sg)) := hdep 13 _ 85 rfl rfl ⟨⟨13, .data⟩, by simp, rfl, rfl⟩
                have t17 : a.tmps.getD 89 undef = (.string (st tl)) := hdep 17 _ 89 rfl rfl ⟨⟨17, .data⟩, by simp, rfl, rfl⟩
                exact .want rfl rfl (by rw [hsz]; simp) gg (wp_val (w' := wa) (v := (.bool (!decide (sg = tl)))) (by simp only [execOp, Act.eval]; rw [show a.tmps.getD 85 undef = _ from t13, show a.tmps.getD 89 undef = _ from t17]; simp only [Sem.run_bind, eg_s, str_ne, Result.andThen_ok, Sem.run_pure]) (hK _ _ (Below.refl _ _) rfl))
              | 19, _ => exact absurd rfl hj
              | _ + 20, hop => exact absurd hop (by simp)
            · intro a wa hwa hdf hsz hsl hrr K hK
              have t10 : a.tmps.getD 82 undef = (.bool false) := hrr 10 _ 82 rfl (by decide) rfl
              have t18 : a.tmps.getD 90 undef = (.bool (!decide (sg = tl))) := hrr 18 _ 90 rfl (by decide) rfl
              refine .plain rfl (wp_val (w' := wa) (v := (.bool (!decide (sg = tl)))) (by simp only [execOp, Act.eval]; rw [show a.tmps.getD 82 undef = _ from t10, show a.tmps.getD 90 undef = _ from t18]; rfl) ?_)
              refine hK _ wa ?_
              have hact := act_puts hdf hsz hsl
              clear hrr hsl hdf hsz hK t10 t18
              simp only [List.filterMap_cons, List.filterMap_nil, List.foldl_cons, List.foldl_nil] at hact
              rw [hact]
              generalize a.tmps.getD 72 undef = y72
              generalize a.tmps.getD 73 undef = y73
              generalize a.tmps.getD 74 undef = y74
              generalize a.tmps.getD 75 undef = y75
              generalize a.tmps.getD 76 undef = y76
              generalize a.tmps.getD 77 undef = y77
              generalize a.tmps.getD 78 undef = y78
              generalize a.tmps.getD 79 undef = y79
              generalize a.tmps.getD 80 undef = y80
              generalize a.tmps.getD 81 undef = y81
              generalize a.tmps.getD 82 undef = y82
              generalize a.tmps.getD 83 undef = y83
              generalize a.tmps.getD 84 undef = y84
              generalize a.tmps.getD 85 undef = y85
              generalize a.tmps.getD 86 undef = y86
              generalize a.tmps.getD 87 undef = y87
              generalize a.tmps.getD 88 undef = y88
              generalize a.tmps.getD 89 undef = y89
              generalize a.tmps.getD 90 undef = y90
              clear hact
              simp only [Act.put, List.setIfInBounds_toArray, List.set_cons_succ, List.set_cons_zero]
              have hf2 := hide1 (hfin.out wa hwa)
              clear hfin hsg hA2 hwa
              by_cases hq : sg = tl
              · have hd : (!decide (sg = tl)) = false := by rw [decide_eq_true hq]; rfl
                rw [if_pos hq, if_pos hq] at hf2
                rw [hd]
                clear hd hq
                go_wp2
                go_ret2
                exact hf2.out
              · have hd : (!decide (sg = tl)) = true := by rw [decide_eq_false hq]; rfl
                rw [if_neg hq, if_neg hq] at hf2
                rw [hd]
                clear hd hq
                go_wp2
                go_ret2
                exact hf2.out
          · have d2 : decide ((c : Int) ≥ 55296) = false := decide_eq_false (by omega)
            clear hR2 hbig hsur hcm hall hnd hs2
            go_upto_region 22 with fail
            refine wp_flowG 19 _ _ (by kernel_rfl) (by kernel_rfl) (by kernel_rfl) rfl (fun j v w => if j = 12 then (fun v w => BsA w v sg) v w else v = ([(.int .i64 (c : Nat)), (.bool false), (.bool false), (.int .i64 (c : Nat)), (.bool false), (.bool false), undef, undef, (.bool false), (.bool false), (.bool false), (.int .i64 (c : Nat)), undef, (.string (st sg)), (.slice (some ⟨b, o, none⟩) (N + 1) cap), (.int .i64 1), (.slice (some ⟨b, o, none⟩) 1 cap), (.string (st tl)), (.bool (!decide (sg = tl))), (.bool (!decide (sg = tl)))] : List Value).getD j undef) (fun j v w w' h hb => by
                  by_cases e12 : j = 12
                  · subst e12; exact BsA.bl (l := sg) h hb
                  · simp only [if_neg e12] at h ⊢; exact h
                  ) ?_ ?_
            · intro j op hop hj a wa hwa hsz hsl hdep K hK
              match j, hop with
              | 0, hop =>
                obtain rfl := Option.some.inj hop
                have p4 : a.tmps.getD 4 undef = (.int .i64 (c : Nat)) := hsl 4 rfl
                exact .plain rfl (wp_val (w' := wa) (v := (.int .i64 (c : Nat))) (by simp only [execOp, Act.eval]; rw [show a.tmps.getD 4 undef = _ from p4]; rfl) (hK _ _ (Below.refl _ _) rfl))
              | 1, hop =>
                obtain rfl := Option.some.inj hop
                have t0 : a.tmps.getD 72 undef = (.int .i64 (c : Nat)) := hdep 0 _ 72 rfl rfl ⟨⟨0, .data⟩, by simp, rfl, rfl⟩
                exact .plain rfl (wp_val (w' := wa) (v := (.bool false)) (by simp only [execOp, Act.eval]; rw [show a.tmps.getD 72 undef = _ from t0]; simp only [Sem.run_bind, eg_gt, bi_gt, d1, Result.andThen_ok, Sem.run_pure]) (hK _ _ (Below.refl _ _) rfl))
              | 2, hop =>
                obtain rfl := Option.some.inj hop
                have t1 : a.tmps.getD 73 undef = (.bool false) := hdep 1 _ 73 rfl rfl ⟨⟨1, .data⟩, by simp, rfl, rfl⟩
                exact .plain rfl (wp_val (w' := wa) (v := (.bool false)) (by simp only [execOp, Act.eval]; rw [show a.tmps.getD 73 undef = _ from t1]; rfl) (hK _ _ (Below.refl _ _) rfl))
              | 3, hop =>
                obtain rfl := Option.some.inj hop
                have gg : a.tmps.getD 74 undef = (.bool false) := hdep 2 _ 74 rfl rfl ⟨⟨2, .guard⟩, by simp, rfl, rfl⟩
                have p4 : a.tmps.getD 4 undef = (.int .i64 (c : Nat)) := hsl 4 rfl
                exact .want rfl rfl (by rw [hsz]; simp) gg (wp_val (w' := wa) (v := (.int .i64 (c : Nat))) (by simp only [execOp, Act.eval]; rw [show a.tmps.getD 4 undef = _ from p4]; rfl) (hK _ _ (Below.refl _ _) rfl))
              | 4, hop =>
                obtain rfl := Option.some.inj hop
                have gg : a.tmps.getD 74 undef = (.bool false) := hdep 2 _ 74 rfl rfl ⟨⟨2, .guard⟩, by simp, rfl, rfl⟩
                have t3 : a.tmps.getD 75 undef = (.int .i64 (c : Nat)) := hdep 3 _ 75 rfl rfl ⟨⟨3, .data⟩, by simp, rfl, rfl⟩
                exact .want rfl rfl (by rw [hsz]; simp) gg (wp_val (w' := wa) (v := (.bool false)) (by simp only [execOp, Act.eval]; rw [show a.tmps.getD 75 undef = _ from t3]; simp only [Sem.run_bind, eg_ge, bi_ge, d2, Result.andThen_ok, Sem.run_pure]) (hK _ _ (Below.refl _ _) rfl))
              | 5, hop =>
                obtain rfl := Option.some.inj hop
                have gg : a.tmps.getD 74 undef = (.bool false) := hdep 2 _ 74 rfl rfl ⟨⟨2, .guard⟩, by simp, rfl, rfl⟩
                have t4 : a.tmps.getD 76 undef = (.bool false) := hdep 4 _ 76 rfl rfl ⟨⟨4, .data⟩, by simp, rfl, rfl⟩
                exact .want rfl rfl (by rw [hsz]; simp) gg (wp_val (w' := wa) (v := (.bool false)) (by simp only [execOp, Act.eval]; rw [show a.tmps.getD 76 undef = _ from t4]; rfl) (hK _ _ (Below.refl _ _) rfl))
              | 6, hop =>
                obtain rfl := Option.some.inj hop
                have gg : a.tmps.getD 77 undef = (.bool false) := hdep 5 _ 77 rfl rfl ⟨⟨5, .guard⟩, by simp, rfl, rfl⟩
                exact .skip rfl rfl (by rw [hsz]; simp) gg (hK _ _ (Below.refl _ _) rfl)
              | 7, hop =>
                obtain rfl := Option.some.inj hop
                have gg : a.tmps.getD 77 undef = (.bool false) := hdep 5 _ 77 rfl rfl ⟨⟨5, .guard⟩, by simp, rfl, rfl⟩
                exact .skip rfl rfl (by rw [hsz]; simp) gg (hK _ _ (Below.refl _ _) rfl)
              | 8, hop =>
                obtain rfl := Option.some.inj hop
                have gg : a.tmps.getD 74 undef = (.bool false) := hdep 2 _ 74 rfl rfl ⟨⟨2, .guard⟩, by simp, rfl, rfl⟩
                have t5 : a.tmps.getD 77 undef = (.bool false) := hdep 5 _ 77 rfl rfl ⟨⟨5, .data⟩, by simp, rfl, rfl⟩
                have t7 : a.tmps.getD 79 undef = undef := hdep 7 _ 79 rfl rfl ⟨⟨7, .data⟩, by simp, rfl, rfl⟩
                exact .want rfl rfl (by rw [hsz]; simp) gg (wp_val (w' := wa) (v := (.bool false)) (by simp only [execOp, Act.eval]; rw [show a.tmps.getD 77 undef = _ from t5, show a.tmps.getD 79 undef = _ from t7]; rfl) (hK _ _ (Below.refl _ _) rfl))
              | 9, hop =>
                obtain rfl := Option.some.inj hop
                have t2 : a.tmps.getD 74 undef = (.bool false) := hdep 2 _ 74 rfl rfl ⟨⟨2, .data⟩, by simp, rfl, rfl⟩
                have t8 : a.tmps.getD 80 undef = (.bool false) := hdep 8 _ 80 rfl rfl ⟨⟨8, .data⟩, by simp, rfl, rfl⟩
                exact .plain rfl (wp_val (w' := wa) (v := (.bool false)) (by simp only [execOp, Act.eval]; rw [show a.tmps.getD 74 undef = _ from t2, show a.tmps.getD 80 undef = _ from t8]; rfl) (hK _ _ (Below.refl _ _) rfl))
              | 10, hop =>
                obtain rfl := Option.some.inj hop
                have t9 : a.tmps.getD 81 undef = (.bool false) := hdep 9 _ 81 rfl rfl ⟨⟨9, .data⟩, by simp, rfl, rfl⟩
                exact .plain rfl (wp_val (w' := wa) (v := (.bool false)) (by simp only [execOp, Act.eval]; rw [show a.tmps.getD 81 undef = _ from t9]; rfl) (hK _ _ (Below.refl _ _) rfl))
              | 11, hop =>
                obtain rfl := Option.some.inj hop
                have gg : a.tmps.getD 82 undef = (.bool false) := hdep 10 _ 82 rfl rfl ⟨⟨10, .guard⟩, by simp, rfl, rfl⟩
                have p4 : a.tmps.getD 4 undef = (.int .i64 (c : Nat)) := hsl 4 rfl
                exact .want rfl rfl (by rw [hsz]; simp) gg (wp_val (w' := wa) (v := (.int .i64 (c : Nat))) (by simp only [execOp, Act.eval]; rw [show a.tmps.getD 4 undef = _ from p4]; rfl) (hK _ _ (Below.refl _ _) rfl))
              | 12, hop =>
                obtain rfl := Option.some.inj hop
                have gg : a.tmps.getD 82 undef = (.bool false) := hdep 10 _ 82 rfl rfl ⟨⟨10, .guard⟩, by simp, rfl, rfl⟩
                have t11 : a.tmps.getD 83 undef = (.int .i64 (c : Nat)) := hdep 11 _ 83 rfl rfl ⟨⟨11, .data⟩, by simp, rfl, rfl⟩
                refine .want rfl rfl (by rw [hsz]; simp) gg (oper_any (J := fun r w' => (fun v w => BsA w v sg) r w' ∧ Below wa.heap.size wa w') 88 #[.tmp 83] _ rfl #[(.int .i64 (c : Nat))] (by simp only [List.map_toArray, List.map_cons, List.map_nil, Act.eval]; rw [show a.tmps.getD 83 undef = _ from t11]) (fun w => by kernel_rfl) ((hsg.out wa).mono fun e w' h => ⟨_, h.1, by rw [h.2, ← hsgc]; exact bc_at, by rw [h.2]; exact below_al _⟩) ?_)
                rintro r w' ⟨hr, hb⟩
                exact hK _ _ hb hr
              | 13, hop =>
                obtain rfl := Option.some.inj hop
                have gg : a.tmps.getD 82 undef = (.bool false) := hdep 10 _ 82 rfl rfl ⟨⟨10, .guard⟩, by simp, rfl, rfl⟩
                have t12 : (fun v w => BsA w v sg) (a.tmps.getD 84 undef) wa := hdep 12 _ 84 rfl rfl ⟨⟨12, .data⟩, by simp, rfl, rfl⟩
                exact .want rfl rfl (by rw [hsz]; simp) gg (wp_val (w' := wa) (v := (.string (st sg))) (by simp only [execOp, Act.eval]; simp only [Sem.run_bind, conv_b t12, Result.andThen_ok, Sem.run_pure]) (hK _ _ (Below.refl _ _) rfl))
              | 14, hop =>
                obtain rfl := Option.some.inj hop
                have gg : a.tmps.getD 82 undef = (.bool false) := hdep 10 _ 82 rfl rfl ⟨⟨10, .guard⟩, by simp, rfl, rfl⟩
                have p0 : a.tmps.getD 0 undef = (.slice (some ⟨b, o, none⟩) (N + 1) cap) := hsl 0 rfl
                exact .want rfl rfl (by rw [hsz]; simp) gg (wp_val (w' := wa) (v := (.slice (some ⟨b, o, none⟩) (N + 1) cap)) (by simp only [execOp, Act.eval]; rw [show a.tmps.getD 0 undef = _ from p0]; rfl) (hK _ _ (Below.refl _ _) rfl))
              | 15, hop =>
                obtain rfl := Option.some.inj hop
                have gg : a.tmps.getD 82 undef = (.bool false) := hdep 10 _ 82 rfl rfl ⟨⟨10, .guard⟩, by simp, rfl, rfl⟩
                have p5 : a.tmps.getD 5 undef = (.int .i64 1) := hsl 5 rfl
                exact .want rfl rfl (by rw [hsz]; simp) gg (wp_val (w' := wa) (v := (.int .i64 1)) (by simp only [execOp, Act.eval]; rw [show a.tmps.getD 5 undef = _ from p5]; rfl) (hK _ _ (Below.refl _ _) rfl))
              | 16, hop =>
                obtain rfl := Option.some.inj hop
                have gg : a.tmps.getD 82 undef = (.bool false) := hdep 10 _ 82 rfl rfl ⟨⟨10, .guard⟩, by simp, rfl, rfl⟩
                have t14 : a.tmps.getD 86 undef = (.slice (some ⟨b, o, none⟩) (N + 1) cap) := hdep 14 _ 86 rfl rfl ⟨⟨14, .data⟩, by simp, rfl, rfl⟩
                have t15 : a.tmps.getD 87 undef = (.int .i64 1) := hdep 15 _ 87 rfl rfl ⟨⟨15, .data⟩, by simp, rfl, rfl⟩
                exact .want rfl rfl (by rw [hsz]; simp) gg (wp_val (w' := wa) (v := (.slice (some ⟨b, o, none⟩) 1 cap)) (by simp only [execOp, Act.eval, Option.map_some, Option.map_none]; rw [show a.tmps.getD 86 undef = _ from t14, show a.tmps.getD 87 undef = _ from t15]; simp only [Sem.run_bind, sl_to (k := 1) (i := 1) rfl (show 1 ≤ cap by omega), Result.andThen_ok, Sem.run_pure]) (hK _ _ (Below.refl _ _) rfl))
              | 17, hop =>
                obtain rfl := Option.some.inj hop
                have gg : a.tmps.getD 82 undef = (.bool false) := hdep 10 _ 82 rfl rfl ⟨⟨10, .guard⟩, by simp, rfl, rfl⟩
                have t16 : a.tmps.getD 88 undef = (.slice (some ⟨b, o, none⟩) 1 cap) := hdep 16 _ 88 rfl rfl ⟨⟨16, .data⟩, by simp, rfl, rfl⟩
                exact .want rfl rfl (by rw [hsz]; simp) gg (wp_val (w' := wa) (v := (.string (st tl))) (by simp only [execOp, Act.eval]; rw [show a.tmps.getD 88 undef = _ from t16]; simp only [Sem.run_bind, hA2.out wa hwa, Result.andThen_ok, Sem.run_pure]) (hK _ _ (Below.refl _ _) rfl))
              | 18, hop =>
                obtain rfl := Option.some.inj hop
                have gg : a.tmps.getD 82 undef = (.bool false) := hdep 10 _ 82 rfl rfl ⟨⟨10, .guard⟩, by simp, rfl, rfl⟩
                have t13 : a.tmps.getD 85 undef = (.string (st sg)) := hdep 13 _ 85 rfl rfl ⟨⟨13, .data⟩, by simp, rfl, rfl⟩
                have t17 : a.tmps.getD 89 undef = (.string (st tl)) := hdep 17 _ 89 rfl rfl ⟨⟨17, .data⟩, by simp, rfl, rfl⟩
                exact .want rfl rfl (by rw [hsz]; simp) gg (wp_val (w' := wa) (v := (.bool (!decide (sg = tl)))) (by simp only [execOp, Act.eval]; rw [show a.tmps.getD 85 undef = _ from t13, show a.tmps.getD 89 undef = _ from t17]; simp only [Sem.run_bind, eg_s, str_ne, Result.andThen_ok, Sem.run_pure]) (hK _ _ (Below.refl _ _) rfl))
              | 19, _ => exact absurd rfl hj
              | _ + 20, hop => exact absurd hop (by simp)
            · intro a wa hwa hdf hsz hsl hrr K hK
              have t10 : a.tmps.getD 82 undef = (.bool false) := hrr 10 _ 82 rfl (by decide) rfl
              have t18 : a.tmps.getD 90 undef = (.bool (!decide (sg = tl))) := hrr 18 _ 90 rfl (by decide) rfl
              refine .plain rfl (wp_val (w' := wa) (v := (.bool (!decide (sg = tl)))) (by simp only [execOp, Act.eval]; rw [show a.tmps.getD 82 undef = _ from t10, show a.tmps.getD 90 undef = _ from t18]; rfl) ?_)
              refine hK _ wa ?_
              have hact := act_puts hdf hsz hsl
              clear hrr hsl hdf hsz hK t10 t18
              simp only [List.filterMap_cons, List.filterMap_nil, List.foldl_cons, List.foldl_nil] at hact
              rw [hact]
              generalize a.tmps.getD 72 undef = y72
              generalize a.tmps.getD 73 undef = y73
              generalize a.tmps.getD 74 undef = y74
              generalize a.tmps.getD 75 undef = y75
              generalize a.tmps.getD 76 undef = y76
              generalize a.tmps.getD 77 undef = y77
              generalize a.tmps.getD 78 undef = y78
              generalize a.tmps.getD 79 undef = y79
              generalize a.tmps.getD 80 undef = y80
              generalize a.tmps.getD 81 undef = y81
              generalize a.tmps.getD 82 undef = y82
              generalize a.tmps.getD 83 undef = y83
              generalize a.tmps.getD 84 undef = y84
              generalize a.tmps.getD 85 undef = y85
              generalize a.tmps.getD 86 undef = y86
              generalize a.tmps.getD 87 undef = y87
              generalize a.tmps.getD 88 undef = y88
              generalize a.tmps.getD 89 undef = y89
              generalize a.tmps.getD 90 undef = y90
              clear hact
              simp only [Act.put, List.setIfInBounds_toArray, List.set_cons_succ, List.set_cons_zero]
              have hf2 := hide1 (hfin.out wa hwa)
              clear hfin hsg hA2 hwa
              by_cases hq : sg = tl
              · have hd : (!decide (sg = tl)) = false := by rw [decide_eq_true hq]; rfl
                rw [if_pos hq, if_pos hq] at hf2
                rw [hd]
                clear hd hq
                go_wp2
                go_ret2
                exact hf2.out
              · have hd : (!decide (sg = tl)) = true := by rw [decide_eq_false hq]; rfl
                rw [if_neg hq, if_neg hq] at hf2
                rw [hd]
                clear hd hq
                go_wp2
                go_ret2
                exact hf2.out
set_option maxHeartbeats 16000000 in
set_option maxRecDepth 100000 in
theorem first_1c {w : World} {sa : Option Addr} {cap : Nat} {x : UInt8} {m : List UInt8} (h : BsA w (.slice sa (m.length + 1) cap) (x :: m)) (hcap : m.length + 1 ≤ cap) (h1 : 32 ≤ x.toNat) (h2 : x.toNat < 128) (_hs : 1 ≤ m.length + 1) : Calls Tryz.prog 86 #[.slice sa (m.length + 1) cap] w (AnF w (fgo 1 x.toNat (x :: m))) := by
  have hall := h
  obtain ⟨_, _, e, h⟩ := h
  cases e
  obtain ⟨b, o, rfl, hb, hc⟩ := h.resolve_left (by simp)
  have c0 : w.cell? ⟨b, o, none⟩ = some (.int .u8 (x.toNat : Nat)) := hc 0 x rfl
  have hx := x.toNat_lt
  have hR : Hid (fgo 1 x.toNat (x :: m) = match fcl x.toNat 0 m with
    | none => (0, 0)
    | some c => fend 1 c (x :: m)) := hide1 (by unfold fgo; rw [if_neg (by simp only [List.length_cons]; omega)]; rfl)
  generalize fgo 1 x.toNat (x :: m) = R at *
  obtain ⟨N, hN⟩ : ∃ N, Hid (N = m.length) := ⟨_, hide1 rfl⟩
  rw [← hN.out] at hall hcap ⊢
  replace hall := hide1 hall
  replace hc := hide1 hc
  go_enter Tryz.func86, Tryz.ntmps86
  go_wp2_with fail
  go_loopw [4, 6] (fun s4 s6 wr => ∃ c i : Nat, s4 = .int .i64 (c : Nat) ∧ s6 = .int .i64 (i : Nat) ∧ ((i = 1 ∧ c < 128)) ∧ wr = w ∧ Hid (fcl c (1 - i) (m.drop (i - 1)) = fcl x.toNat 0 m)) (fun _ s6 _ => 1 - (intOf s6).toNat)
  case atStart => exact ⟨x.toNat, 1, by first | rfl | (congr 1; omega), rfl, by omega, rfl, hide1 rfl⟩
  case round =>
    obtain ⟨c, i, rfl, rfl, hci, rfl, hme⟩ := hrel
    by_cases hlt : i < 1
    · exfalso; omega
    · have hi : i = 1 := by omega
      subst hi
      have hme2 : fcl x.toNat 0 m = some c := by rw [← hme.out]; rfl
      have hR2 : Hid (R = fend 1 c (x :: m)) := hide1 (by rw [hR.out, hme2])
      have hcm : c < 8388608 := by omega
      clear hme hme2 hR hci hlt hc 
      by_cases hbig : 1114111 < c
      · have d1 : decide ((c : Int) > 1114111) = true := decide_eq_true (by omega)
        have hfin : Hid (∀ q, AnF wr R (.returned (.tuple #[.int .i64 0, .int .i64 0])) (wr.drewN q)) := hide1 fun q => ⟨by rw [hR2.out]; unfold fend; rw [if_pos (.inl (.inl hbig))]; rfl, below_drewNv (Below.refl _ _) q⟩
        clear hR2 hbig hcm hall
        go_wp2_with fail
        go_quiet (fail)
        go_wp2
        go_ret2
        exact hfin.out _
      · have d1 : decide ((c : Int) > 1114111) = false := decide_eq_false (by omega)
        by_cases hsur : 55296 ≤ c ∧ c ≤ 57343
        · have d2 : decide ((c : Int) ≥ 55296) = true := decide_eq_true (by omega)
          have d3 : decide ((c : Int) ≤ 57343) = true := decide_eq_true (by omega)
          have hfin : Hid (∀ q, AnF wr R (.returned (.tuple #[.int .i64 0, .int .i64 0])) (wr.drewN q)) := hide1 fun q => ⟨by rw [hR2.out]; unfold fend; rw [if_pos (.inl (.inr hsur))]; rfl, below_drewNv (Below.refl _ _) q⟩
          clear hR2 hbig hsur hcm hall
          go_wp2_with fail
          go_quiet (fail)
          go_wp2
          go_ret2
          exact hfin.out _
        · have hsg := hide1 (fun wa : World => rsign_d (c := c) (by omega) (w := wa))
          have hA2 := hide1 (fun (wa : World) (hb : Below wr.heap.size wr wa) => conv_b ((hall.out.bl hb).take (k := 1) (by simp only [List.length_cons]; have := hN.out; omega) cap))
          have hnd : ¬ bdc c := fun h => h.elim hbig hsur
          have hfin : Hid (∀ wa, Below wr.heap.size wr wa → AnF wr R (.returned (.tuple #[.int .i64 (if sgn c = (x :: m).take 1 then c else 0 : Nat), .int .i64 (if sgn c = (x :: m).take 1 then 1 else 0 : Nat)])) wa) := hide1 fun wa hb => ⟨by
            rw [hR2.out]; unfold fend
            by_cases hq : sgn c = (x :: m).take 1
            · rw [if_pos hq, if_pos hq, if_neg (fun h => h.elim hnd (fun h => h hq))]
            · rw [if_neg hq, if_neg hq, if_pos (.inr hq)], hb⟩
          generalize hsgc : sgn c = sg at *
          generalize (x :: m).take 1 = tl at *
          by_cases hs2 : 55296 ≤ c
          · have d2 : decide ((c : Int) ≥ 55296) = true := decide_eq_true (by omega)
            have d3 : decide ((c : Int) ≤ 57343) = false := decide_eq_false (by omega)
            clear hR2 hbig hsur hcm hall hnd hs2
            go_upto_region 22 with fail
            refine wp_flowG 19 _ _ (by kernel_rfl) (by kernel_rfl) (by kernel_rfl) rfl (fun j v w => if j = 12 then (fun v w => BsA w v sg) v w else v = ([(.int .i64 (c : Nat)), (.bool false), (.bool false), (.int .i64 (c : Nat)), (.bool true), (.bool true), (.int .i64 (c : Nat)), (.bool false), (.bool false), (.bool false), (.bool false), (.int .i64 (c : Nat)), undef, (.string (st sg)), (.slice (some ⟨b, o, none⟩) (N + 1) cap), (.int .i64 1), (.slice (some ⟨b, o, none⟩) 1 cap), (.string (st tl)), (.bool (!decide (sg = tl))), (.bool (!decide (sg = tl)))] : List Value).getD j undef) (fun j v w w' h hb => by
                  by_cases e12 : j = 12
                  · subst e12; exact BsA.bl (l := sg) h hb
                  · simp only [if_neg e12] at h ⊢; exact h
                  ) ?_ ?_
            · intro j op hop hj a wa hwa hsz hsl hdep K hK
              match j, hop with
              | 0, hop =>
                obtain rfl := Option.some.inj hop
                have p4 : a.tmps.getD 4 undef = (.int .i64 (c : Nat)) := hsl 4 rfl
                exact .plain rfl (wp_val (w' := wa) (v := (.int .i64 (c : Nat))) (by simp only [execOp, Act.eval]; rw [show a.tmps.getD 4 undef = _ from p4]; rfl) (hK _ _ (Below.refl _ _) rfl))
              | 1, hop =>
                obtain rfl := Option.some.inj hop
                have t0 : a.tmps.getD 72 undef = (.int .i64 (c : Nat)) := hdep 0 _ 72 rfl rfl ⟨⟨0, .data⟩, by simp, rfl, rfl⟩
                exact .plain rfl (wp_val (w' := wa) (v := (.bool false)) (by simp only [execOp, Act.eval]; rw [show a.tmps.getD 72 undef = _ from t0]; simp only [Sem.run_bind, eg_gt, bi_gt, d1, Result.andThen_ok, Sem.run_pure]) (hK _ _ (Below.refl _ _) rfl))
              | 2, hop =>
                obtain rfl := Option.some.inj hop
                have t1 : a.tmps.getD 73 undef = (.bool false) := hdep 1 _ 73 rfl rfl ⟨⟨1, .data⟩, by simp, rfl, rfl⟩
                exact .plain rfl (wp_val (w' := wa) (v := (.bool false)) (by simp only [execOp, Act.eval]; rw [show a.tmps.getD 73 undef = _ from t1]; rfl) (hK _ _ (Below.refl _ _) rfl))
              | 3, hop =>
                obtain rfl := Option.some.inj hop
                have gg : a.tmps.getD 74 undef = (.bool false) := hdep 2 _ 74 rfl rfl ⟨⟨2, .guard⟩, by simp, rfl, rfl⟩
                have p4 : a.tmps.getD 4 undef = (.int .i64 (c : Nat)) := hsl 4 rfl
                exact .want rfl rfl (by rw [hsz]; simp) gg (wp_val (w' := wa) (v := (.int .i64 (c : Nat))) (by simp only [execOp, Act.eval]; rw [show a.tmps.getD 4 undef = _ from p4]; rfl) (hK _ _ (Below.refl _ _) rfl))
              | 4, hop =>
                obtain rfl := Option.some.inj hop
                have gg : a.tmps.getD 74 undef = (.bool false) := hdep 2 _ 74 rfl rfl ⟨⟨2, .guard⟩, by simp, rfl, rfl⟩
                have t3 : a.tmps.getD 75 undef = (.int .i64 (c : Nat)) := hdep 3 _ 75 rfl rfl ⟨⟨3, .data⟩, by simp, rfl, rfl⟩
                exact .want rfl rfl (by rw [hsz]; simp) gg (wp_val (w' := wa) (v := (.bool true)) (by simp only [execOp, Act.eval]; rw [show a.tmps.getD 75 undef = _ from t3]; simp only [Sem.run_bind, eg_ge, bi_ge, d2, Result.andThen_ok, Sem.run_pure]) (hK _ _ (Below.refl _ _) rfl))
              | 5, hop =>
                obtain rfl := Option.some.inj hop
                have gg : a.tmps.getD 74 undef = (.bool false) := hdep 2 _ 74 rfl rfl ⟨⟨2, .guard⟩, by simp, rfl, rfl⟩
                have t4 : a.tmps.getD 76 undef = (.bool true) := hdep 4 _ 76 rfl rfl ⟨⟨4, .data⟩, by simp, rfl, rfl⟩
                exact .want rfl rfl (by rw [hsz]; simp) gg (wp_val (w' := wa) (v := (.bool true)) (by simp only [execOp, Act.eval]; rw [show a.tmps.getD 76 undef = _ from t4]; rfl) (hK _ _ (Below.refl _ _) rfl))
              | 6, hop =>
                obtain rfl := Option.some.inj hop
                have gg : a.tmps.getD 77 undef = (.bool true) := hdep 5 _ 77 rfl rfl ⟨⟨5, .guard⟩, by simp, rfl, rfl⟩
                have p4 : a.tmps.getD 4 undef = (.int .i64 (c : Nat)) := hsl 4 rfl
                exact .want rfl rfl (by rw [hsz]; simp) gg (wp_val (w' := wa) (v := (.int .i64 (c : Nat))) (by simp only [execOp, Act.eval]; rw [show a.tmps.getD 4 undef = _ from p4]; rfl) (hK _ _ (Below.refl _ _) rfl))
              | 7, hop =>
                obtain rfl := Option.some.inj hop
                have gg : a.tmps.getD 77 undef = (.bool true) := hdep 5 _ 77 rfl rfl ⟨⟨5, .guard⟩, by simp, rfl, rfl⟩
                have t6 : a.tmps.getD 78 undef = (.int .i64 (c : Nat)) := hdep 6 _ 78 rfl rfl ⟨⟨6, .data⟩, by simp, rfl, rfl⟩
                exact .want rfl rfl (by rw [hsz]; simp) gg (wp_val (w' := wa) (v := (.bool false)) (by simp only [execOp, Act.eval]; rw [show a.tmps.getD 78 undef = _ from t6]; simp only [Sem.run_bind, eg_le, bi_le, d3, Result.andThen_ok, Sem.run_pure]) (hK _ _ (Below.refl _ _) rfl))
              | 8, hop =>
                obtain rfl := Option.some.inj hop
                have gg : a.tmps.getD 74 undef = (.bool false) := hdep 2 _ 74 rfl rfl ⟨⟨2, .guard⟩, by simp, rfl, rfl⟩
                have t5 : a.tmps.getD 77 undef = (.bool true) := hdep 5 _ 77 rfl rfl ⟨⟨5, .data⟩, by simp, rfl, rfl⟩
                have t7 : a.tmps.getD 79 undef = (.bool false) := hdep 7 _ 79 rfl rfl ⟨⟨7, .data⟩, by simp, rfl, rfl⟩
                exact .want rfl rfl (by rw [hsz]; simp) gg (wp_val (w' := wa) (v := (.bool false)) (by simp only [execOp, Act.eval]; rw [show a.tmps.getD 77 undef = _ from t5, show a.tmps.getD 79 undef = _ from t7]; rfl) (hK _ _ (Below.refl _ _) rfl))
              | 9, hop =>
                obtain rfl := Option.some.inj hop
                have t2 : a.tmps.getD 74 undef = (.bool false) := hdep 2 _ 74 rfl rfl ⟨⟨2, .data⟩, by simp, rfl, rfl⟩
                have t8 : a.tmps.getD 80 undef = (.bool false) := hdep 8 _ 80 rfl rfl ⟨⟨8, .data⟩, by simp, rfl, rfl⟩
                exact .plain rfl (wp_val (w' := wa) (v := (.bool false)) (by simp only [execOp, Act.eval]; rw [show a.tmps.getD 74 undef = _ from t2, show a.tmps.getD 80 undef = _ from t8]; rfl) (hK _ _ (Below.refl _ _) rfl))
              | 10, hop =>
                obtain rfl := Option.some.inj hop
                have t9 : a.tmps.getD 81 undef = (.bool false) := hdep 9 _ 81 rfl rfl ⟨⟨9, .data⟩, by simp, rfl, rfl⟩
                exact .plain rfl (wp_val (w' := wa) (v := (.bool false)) (by simp only [execOp, Act.eval]; rw [show a.tmps.getD 81 undef = _ from t9]; rfl) (hK _ _ (Below.refl _ _) rfl))
              | 11, hop =>
                obtain rfl := Option.some.inj hop
                have gg : a.tmps.getD 82 undef = (.bool false) := hdep 10 _ 82 rfl rfl ⟨⟨10, .guard⟩, by simp, rfl, rfl⟩
                have p4 : a.tmps.getD 4 undef = (.int .i64 (c : Nat)) := hsl 4 rfl
                exact .want rfl rfl (by rw [hsz]; simp) gg (wp_val (w' := wa) (v := (.int .i64 (c : Nat))) (by simp only [execOp, Act.eval]; rw [show a.tmps.getD 4 undef = _ from p4]; rfl) (hK _ _ (Below.refl _ _) rfl))
              | 12, hop =>
                obtain rfl := Option.some.inj hop
                have gg : a.tmps.getD 82 undef = (.bool false) := hdep 10 _ 82 rfl rfl ⟨⟨10, .guard⟩, by simp, rfl, rfl⟩
                have t11 : a.tmps.getD 83 undef = (.int .i64 (c : Nat)) := hdep 11 _ 83 rfl rfl ⟨⟨11, .data⟩, by simp, rfl, rfl⟩
                refine .want rfl rfl (by rw [hsz]; simp) gg (oper_any (J := fun r w' => (fun v w => BsA w v sg) r w' ∧ Below wa.heap.size wa w') 88 #[.tmp 83] _ rfl #[(.int .i64 (c : Nat))] (by simp only [List.map_toArray, List.map_cons, List.map_nil, Act.eval]; rw [show a.tmps.getD 83 undef = _ from t11]) (fun w => by kernel_rfl) ((hsg.out wa).mono fun e w' h => ⟨_, h.1, by rw [h.2, ← hsgc]; exact bc_at, by rw [h.2]; exact below_al _⟩) ?_)
                rintro r w' ⟨hr, hb⟩
                exact hK _ _ hb hr
              | 13, hop =>
                obtain rfl := Option.some.inj hop
                have gg : a.tmps.getD 82 undef = (.bool false) := hdep 10 _ 82 rfl rfl ⟨⟨10, .guard⟩, by simp, rfl, rfl⟩
                have t12 : (fun v w => BsA w v sg) (a.tmps.getD 84 undef) wa := hdep 12 _ 84 rfl rfl ⟨⟨12, .data⟩, by simp, rfl, rfl⟩
                exact .want rfl rfl (by rw [hsz]; simp) gg (wp_val (w' := wa) (v := (.string (st sg))) (by simp only [execOp, Act.eval]; simp only [Sem.run_bind, conv_b t12, Result.andThen_ok, Sem.run_pure]) (hK _ _ (Below.refl _ _) rfl))
              | 14, hop =>
                obtain rfl := Option.some.inj hop
                have gg : a.tmps.getD 82 undef = (.bool false) := hdep 10 _ 82 rfl rfl ⟨⟨10, .guard⟩, by simp, rfl, rfl⟩
                have p0 : a.tmps.getD 0 undef = (.slice (some ⟨b, o, none⟩) (N + 1) cap) := hsl 0 rfl
                exact .want rfl rfl (by rw [hsz]; simp) gg (wp_val (w' := wa) (v := (.slice (some ⟨b, o, none⟩) (N + 1) cap)) (by simp only [execOp, Act.eval]; rw [show a.tmps.getD 0 undef = _ from p0]; rfl) (hK _ _ (Below.refl _ _) rfl))
              | 15, hop =>
                obtain rfl := Option.some.inj hop
                have gg : a.tmps.getD 82 undef = (.bool false) := hdep 10 _ 82 rfl rfl ⟨⟨10, .guard⟩, by simp, rfl, rfl⟩
                have p5 : a.tmps.getD 5 undef = (.int .i64 1) := hsl 5 rfl
                exact .want rfl rfl (by rw [hsz]; simp) gg (wp_val (w' := wa) (v := (.int .i64 1)) (by simp only [execOp, Act.eval]; rw [show a.tmps.getD 5 undef = _ from p5]; rfl) (hK _ _ (Below.refl _ _) rfl))
              | 16, hop =>
                obtain rfl := Option.some.inj hop
                have gg : a.tmps.getD 82 undef = (.bool false) := hdep 10 _ 82 rfl rfl ⟨⟨10, .guard⟩, by simp, rfl, rfl⟩
                have t14 : a.tmps.getD 86 undef = (.slice (some ⟨b, o, none⟩) (N + 1) cap) := hdep 14 _ 86 rfl rfl ⟨⟨14, .data⟩, by simp, rfl, rfl⟩
                have t15 : a.tmps.getD 87 undef = (.int .i64 1) := hdep 15 _ 87 rfl rfl ⟨⟨15, .data⟩, by simp, rfl, rfl⟩
                exact .want rfl rfl (by rw [hsz]; simp) gg (wp_val (w' := wa) (v := (.slice (some ⟨b, o, none⟩) 1 cap)) (by simp only [execOp, Act.eval, Option.map_some, Option.map_none]; rw [show a.tmps.getD 86 undef = _ from t14, show a.tmps.getD 87 undef = _ from t15]; simp only [Sem.run_bind, sl_to (k := 1) (i := 1) rfl (show 1 ≤ cap by omega), Result.andThen_ok, Sem.run_pure]) (hK _ _ (Below.refl _ _) rfl))
              | 17, hop =>
                obtain rfl := Option.some.inj hop
                have gg : a.tmps.getD 82 undef = (.bool false) := hdep 10 _ 82 rfl rfl ⟨⟨10, .guard⟩, by simp, rfl, rfl⟩
                have t16 : a.tmps.getD 88 undef = (.slice (some ⟨b, o, none⟩) 1 cap) := hdep 16 _ 88 rfl rfl ⟨⟨16, .data⟩, by simp, rfl, rfl⟩
                exact .want rfl rfl (by rw [hsz]; simp) gg (wp_val (w' := wa) (v := (.string (st tl))) (by simp only [execOp, Act.eval]; rw [show a.tmps.getD 88 undef = _ from t16]; simp only [Sem.run_bind, hA2.out wa hwa, Result.andThen_ok, Sem.run_pure]) (hK _ _ (Below.refl _ _) rfl))
              | 18, hop =>
                obtain rfl := Option.some.inj hop
                have gg : a.tmps.getD 82 undef = (.bool false) := hdep 10 _ 82 rfl rfl ⟨⟨10, .guard⟩, by simp, rfl, rfl⟩
                have t13 : a.tmps.getD 85 undef = (.string (st sg)) := hdep 13 _ 85 rfl rfl ⟨⟨13, .data⟩, by simp, rfl, rfl⟩
                have t17 : a.tmps.getD 89 undef = (.string (st tl)) := hdep 17 _ 89 rfl rfl ⟨⟨17, .data⟩, by simp, rfl, rfl⟩
                exact .want rfl rfl (by rw [hsz]; simp) gg (wp_val (w' := wa) (v := (.bool (!decide (sg = tl)))) (by simp only [execOp, Act.eval]; rw [show a.tmps.getD 85 undef = _ from t13, show a.tmps.getD 89 undef = _ from t17]; simp only [Sem.run_bind, eg_s, str_ne, Result.andThen_ok, Sem.run_pure]) (hK _ _ (Below.refl _ _) rfl))
              | 19, _ => exact absurd rfl hj
              | _ + 20, hop => exact absurd hop (by simp)
            · intro a wa hwa hdf hsz hsl hrr K hK
              have t10 : a.tmps.getD 82 undef = (.bool false) := hrr 10 _ 82 rfl (by decide) rfl
              have t18 : a.tmps.getD 90 undef = (.bool (!decide (sg = tl))) := hrr 18 _ 90 rfl (by decide) rfl
              refine .plain rfl (wp_val (w' := wa) (v := (.bool (!decide (sg = tl)))) (by simp only [execOp, Act.eval]; rw [show a.tmps.getD 82 undef = _ from t10, show a.tmps.getD 90 undef = _ from t18]; rfl) ?_)
              refine hK _ wa ?_
              have hact := act_puts hdf hsz hsl
              clear hrr hsl hdf hsz hK t10 t18
              simp only [List.filterMap_cons, List.filterMap_nil, List.foldl_cons, List.foldl_nil] at hact
              rw [hact]
              generalize a.tmps.getD 72 undef = y72
              generalize a.tmps.getD 73 undef = y73
              generalize a.tmps.getD 74 undef = y74
              generalize a.tmps.getD 75 undef = y75
              generalize a.tmps.getD 76 undef = y76
              generalize a.tmps.getD 77 undef = y77
              generalize a.tmps.getD 78 undef = y78
              generalize a.tmps.getD 79 undef = y79
              generalize a.tmps.getD 80 undef = y80
              generalize a.tmps.getD 81 undef = y81
              generalize a.tmps.getD 82 undef = y82
              generalize a.tmps.getD 83 undef = y83
              generalize a.tmps.getD 84 undef = y84
              generalize a.tmps.getD 85 undef = y85
              generalize a.tmps.getD 86 undef = y86
              generalize a.tmps.getD 87 undef = y87
              generalize a.tmps.getD 88 undef = y88
              generalize a.tmps.getD 89 undef = y89
              generalize a.tmps.getD 90 undef = y90
              clear hact
              simp only [Act.put, List.setIfInBounds_toArray, List.set_cons_succ, List.set_cons_zero]
              have hf2 := hide1 (hfin.out wa hwa)
              clear hfin hsg hA2 hwa
              by_cases hq : sg = tl
              · have hd : (!decide (sg = tl)) = false := by rw [decide_eq_true hq]; rfl
                rw [if_pos hq, if_pos hq] at hf2
                rw [hd]
                clear hd hq
                go_wp2
                go_ret2
                exact hf2.out
              · have hd : (!decide (sg = tl)) = true := by rw [decide_eq_false hq]; rfl
                rw [if_neg hq, if_neg hq] at hf2
                rw [hd]
                clear hd hq
                go_wp2
                go_ret2
                exact hf2.out
          · have d2 : decide ((c : Int) ≥ 55296) = false := decide_eq_false (by omega)
            clear hR2 hbig hsur hcm hall hnd hs2
            go_upto_region 22 with fail
            refine wp_flowG 19 _ _ (by kernel_rfl) (by kernel_rfl) (by kernel_rfl) rfl (fun j v w => if j = 12 then (fun v w => BsA w v sg) v w else v = ([(.int .i64 (c : Nat)), (.bool false), (.bool false), (.int .i64 (c : Nat)), (.bool false), (.bool false), undef, undef, (.bool false), (.bool false), (.bool false), (.int .i64 (c : Nat)), undef, (.string (st sg)), (.slice (some ⟨b, o, none⟩) (N + 1) cap), (.int .i64 1), (.slice (some ⟨b, o, none⟩) 1 cap), (.string (st tl)), (.bool (!decide (sg = tl))), (.bool (!decide (sg = tl)))] : List Value).getD j undef) (fun j v w w' h hb => by
                  by_cases e12 : j = 12
                  · subst e12; exact BsA.bl (l := sg) h hb
                  · simp only [if_neg e12] at h ⊢; exact h
                  ) ?_ ?_
            · intro j op hop hj a wa hwa hsz hsl hdep K hK
              match j, hop with
              | 0, hop =>
                obtain rfl := Option.some.inj hop
                have p4 : a.tmps.getD 4 undef = (.int .i64 (c : Nat)) := hsl 4 rfl
                exact .plain rfl (wp_val (w' := wa) (v := (.int .i64 (c : Nat))) (by simp only [execOp, Act.eval]; rw [show a.tmps.getD 4 undef = _ from p4]; rfl) (hK _ _ (Below.refl _ _) rfl))
              | 1, hop =>
                obtain rfl := Option.some.inj hop
                have t0 : a.tmps.getD 72 undef = (.int .i64 (c : Nat)) := hdep 0 _ 72 rfl rfl ⟨⟨0, .data⟩, by simp, rfl, rfl⟩
                exact .plain rfl (wp_val (w' := wa) (v := (.bool false)) (by simp only [execOp, Act.eval]; rw [show a.tmps.getD 72 undef = _ from t0]; simp only [Sem.run_bind, eg_gt, bi_gt, d1, Result.andThen_ok, Sem.run_pure]) (hK _ _ (Below.refl _ _) rfl))
              | 2, hop =>
                obtain rfl := Option.some.inj hop
                have t1 : a.tmps.getD 73 undef = (.bool false) := hdep 1 _ 73 rfl rfl ⟨⟨1, .data⟩, by simp, rfl, rfl⟩
                exact .plain rfl (wp_val (w' := wa) (v := (.bool false)) (by simp only [execOp, Act.eval]; rw [show a.tmps.getD 73 undef = _ from t1]; rfl) (hK _ _ (Below.refl _ _) rfl))
              | 3, hop =>
                obtain rfl := Option.some.inj hop
                have gg : a.tmps.getD 74 undef = (.bool false) := hdep 2 _ 74 rfl rfl ⟨⟨2, .guard⟩, by simp, rfl, rfl⟩
                have p4 : a.tmps.getD 4 undef = (.int .i64 (c : Nat)) := hsl 4 rfl
                exact .want rfl rfl (by rw [hsz]; simp) gg (wp_val (w' := wa) (v := (.int .i64 (c : Nat))) (by simp only [execOp, Act.eval]; rw [show a.tmps.getD 4 undef = _ from p4]; rfl) (hK _ _ (Below.refl _ _) rfl))
              | 4, hop =>
                obtain rfl := Option.some.inj hop
                have gg : a.tmps.getD 74 undef = (.bool false) := hdep 2 _ 74 rfl rfl ⟨⟨2, .guard⟩, by simp, rfl, rfl⟩
                have t3 : a.tmps.getD 75 undef = (.int .i64 (c : Nat)) := hdep 3 _ 75 rfl rfl ⟨⟨3, .data⟩, by simp, rfl, rfl⟩
                exact .want rfl rfl (by rw [hsz]; simp) gg (wp_val (w' := wa) (v := (.bool false)) (by simp only [execOp, Act.eval]; rw [show a.tmps.getD 75 undef = _ from t3]; simp only [Sem.run_bind, eg_ge, bi_ge, d2, Result.andThen_ok, Sem.run_pure]) (hK _ _ (Below.refl _ _) rfl))
              | 5, hop =>
                obtain rfl := Option.some.inj hop
                have gg : a.tmps.getD 74 undef = (.bool false) := hdep 2 _ 74 rfl rfl ⟨⟨2, .guard⟩, by simp, rfl, rfl⟩
                have t4 : a.tmps.getD 76 undef = (.bool false) := hdep 4 _ 76 rfl rfl ⟨⟨4, .data⟩, by simp, rfl, rfl⟩
                exact .want rfl rfl (by rw [hsz]; simp) gg (wp_val (w' := wa) (v := (.bool false)) (by simp only [execOp, Act.eval]; rw [show a.tmps.getD 76 undef = _ from t4]; rfl) (hK _ _ (Below.refl _ _) rfl))
              | 6, hop =>
                obtain rfl := Option.some.inj hop
                have gg : a.tmps.getD 77 undef = (.bool false) := hdep 5 _ 77 rfl rfl ⟨⟨5, .guard⟩, by simp, rfl, rfl⟩
                exact .skip rfl rfl (by rw [hsz]; simp) gg (hK _ _ (Below.refl _ _) rfl)
              | 7, hop =>
                obtain rfl := Option.some.inj hop
                have gg : a.tmps.getD 77 undef = (.bool false) := hdep 5 _ 77 rfl rfl ⟨⟨5, .guard⟩, by simp, rfl, rfl⟩
                exact .skip rfl rfl (by rw [hsz]; simp) gg (hK _ _ (Below.refl _ _) rfl)
              | 8, hop =>
                obtain rfl := Option.some.inj hop
                have gg : a.tmps.getD 74 undef = (.bool false) := hdep 2 _ 74 rfl rfl ⟨⟨2, .guard⟩, by simp, rfl, rfl⟩
                have t5 : a.tmps.getD 77 undef = (.bool false) := hdep 5 _ 77 rfl rfl ⟨⟨5, .data⟩, by simp, rfl, rfl⟩
                have t7 : a.tmps.getD 79 undef = undef := hdep 7 _ 79 rfl rfl ⟨⟨7, .data⟩, by simp, rfl, rfl⟩
                exact .want rfl rfl (by rw [hsz]; simp) gg (wp_val (w' := wa) (v := (.bool false)) (by simp only [execOp, Act.eval]; rw [show a.tmps.getD 77 undef = _ from t5, show a.tmps.getD 79 undef = _ from t7]; rfl) (hK _ _ (Below.refl _ _) rfl))
              | 9, hop =>
                obtain rfl := Option.some.inj hop
                have t2 : a.tmps.getD 74 undef = (.bool false) := hdep 2 _ 74 rfl rfl ⟨⟨2, .data⟩, by simp, rfl, rfl⟩
                have t8 : a.tmps.getD 80 undef = (.bool false) := hdep 8 _ 80 rfl rfl ⟨⟨8, .data⟩, by simp, rfl, rfl⟩
                exact .plain rfl (wp_val (w' := wa) (v := (.bool false)) (by simp only [execOp, Act.eval]; rw [show a.tmps.getD 74 undef = _ from t2, show a.tmps.getD 80 undef = _ from t8]; rfl) (hK _ _ (Below.refl _ _) rfl))
              | 10, hop =>
                obtain rfl := Option.some.inj hop
                have t9 : a.tmps.getD 81 undef = (.bool false) := hdep 9 _ 81 rfl rfl ⟨⟨9, .data⟩, by simp, rfl, rfl⟩
                exact .plain rfl (wp_val (w' := wa) (v := (.bool false)) (by simp only [execOp, Act.eval]; rw [show a.tmps.getD 81 undef = _ from t9]; rfl) (hK _ _ (Below.refl _ _) rfl))
              | 11, hop =>
                obtain rfl := Option.some.inj hop
                have gg : a.tmps.getD 82 undef = (.bool false) := hdep 10 _ 82 rfl rfl ⟨⟨10, .guard⟩, by simp, rfl, rfl⟩
                have p4 : a.tmps.getD 4 undef = (.int .i64 (c : Nat)) := hsl 4 rfl
                exact .want rfl rfl (by rw [hsz]; simp) gg (wp_val (w' := wa) (v := (.int .i64 (c : Nat))) (by simp only [execOp, Act.eval]; rw [show a.tmps.getD 4 undef = _ from p4]; rfl) (hK _ _ (Below.refl _ _) rfl))
              | 12, hop =>
                obtain rfl := Option.some.inj hop
                have gg : a.tmps.getD 82 undef = (.bool false) := hdep 10 _ 82 rfl rfl ⟨⟨10, .guard⟩, by simp, rfl, rfl⟩
                have t11 : a.tmps.getD 83 undef = (.int .i64 (c : Nat)) := hdep 11 _ 83 rfl rfl ⟨⟨11, .data⟩, by simp, rfl, rfl⟩
                refine .want rfl rfl (by rw [hsz]; simp) gg (oper_any (J := fun r w' => (fun v w => BsA w v sg) r w' ∧ Below wa.heap.size wa w') 88 #[.tmp 83] _ rfl #[(.int .i64 (c : Nat))] (by simp only [List.map_toArray, List.map_cons, List.map_nil, Act.eval]; rw [show a.tmps.getD 83 undef = _ from t11]) (fun w => by kernel_rfl) ((hsg.out wa).mono fun e w' h => ⟨_, h.1, by rw [h.2, ← hsgc]; exact bc_at, by rw [h.2]; exact below_al _⟩) ?_)
                rintro r w' ⟨hr, hb⟩
                exact hK _ _ hb hr
              | 13, hop =>
                obtain rfl := Option.some.inj hop
                have gg : a.tmps.getD 82 undef = (.bool false) := hdep 10 _ 82 rfl rfl ⟨⟨10, .guard⟩, by simp, rfl, rfl⟩
                have t12 : (fun v w => BsA w v sg) (a.tmps.getD 84 undef) wa := hdep 12 _ 84 rfl rfl ⟨⟨12, .data⟩, by simp, rfl, rfl⟩
                exact .want rfl rfl (by rw [hsz]; simp) gg (wp_val (w' := wa) (v := (.string (st sg))) (by simp only [execOp, Act.eval]; simp only [Sem.run_bind, conv_b t12, Result.andThen_ok, Sem.run_pure]) (hK _ _ (Below.refl _ _) rfl))
              | 14, hop =>
                obtain rfl := Option.some.inj hop
                have gg : a.tmps.getD 82 undef = (.bool false) := hdep 10 _ 82 rfl rfl ⟨⟨10, .guard⟩, by simp, rfl, rfl⟩
                have p0 : a.tmps.getD 0 undef = (.slice (some ⟨b, o, none⟩) (N + 1) cap) := hsl 0 rfl
                exact .want rfl rfl (by rw [hsz]; simp) gg (wp_val (w' := wa) (v := (.slice (some ⟨b, o, none⟩) (N + 1) cap)) (by simp only [execOp, Act.eval]; rw [show a.tmps.getD 0 undef = _ from p0]; rfl) (hK _ _ (Below.refl _ _) rfl))
              | 15, hop =>
                obtain rfl := Option.some.inj hop
                have gg : a.tmps.getD 82 undef = (.bool false) := hdep 10 _ 82 rfl rfl ⟨⟨10, .guard⟩, by simp, rfl, rfl⟩
                have p5 : a.tmps.getD 5 undef = (.int .i64 1) := hsl 5 rfl
                exact .want rfl rfl (by rw [hsz]; simp) gg (wp_val (w' := wa) (v := (.int .i64 1)) (by simp only [execOp, Act.eval]; rw [show a.tmps.getD 5 undef = _ from p5]; rfl) (hK _ _ (Below.refl _ _) rfl))
              | 16, hop =>
                obtain rfl := Option.some.inj hop
                have gg : a.tmps.getD 82 undef = (.bool false) := hdep 10 _ 82 rfl rfl ⟨⟨10, .guard⟩, by simp, rfl, rfl⟩
                have t14 : a.tmps.getD 86 undef = (.slice (some ⟨b, o, none⟩) (N + 1) cap) := hdep 14 _ 86 rfl rfl ⟨⟨14, .data⟩, by simp, rfl, rfl⟩
                have t15 : a.tmps.getD 87 undef = (.int .i64 1) := hdep 15 _ 87 rfl rfl ⟨⟨15, .data⟩, by simp, rfl, rfl⟩
                exact .want rfl rfl (by rw [hsz]; simp) gg (wp_val (w' := wa) (v := (.slice (some ⟨b, o, none⟩) 1 cap)) (by simp only [execOp, Act.eval, Option.map_some, Option.map_none]; rw [show a.tmps.getD 86 undef = _ from t14, show a.tmps.getD 87 undef = _ from t15]; simp only [Sem.run_bind, sl_to (k := 1) (i := 1) rfl (show 1 ≤ cap by omega), Result.andThen_ok, Sem.run_pure]) (hK _ _ (Below.refl _ _) rfl))
              | 17, hop =>
                obtain rfl := Option.some.inj hop
                have gg : a.tmps.getD 82 undef = (.bool false) := hdep 10 _ 82 rfl rfl ⟨⟨10, .guard⟩, by simp, rfl, rfl⟩
                have t16 : a.tmps.getD 88 undef = (.slice (some ⟨b, o, none⟩) 1 cap) := hdep 16 _ 88 rfl rfl ⟨⟨16, .data⟩, by simp, rfl, rfl⟩
                exact .want rfl rfl (by rw [hsz]; simp) gg (wp_val (w' := wa) (v := (.string (st tl))) (by simp only [execOp, Act.eval]; rw [show a.tmps.getD 88 undef = _ from t16]; simp only [Sem.run_bind, hA2.out wa hwa, Result.andThen_ok, Sem.run_pure]) (hK _ _ (Below.refl _ _) rfl))
              | 18, hop =>
                obtain rfl := Option.some.inj hop
                have gg : a.tmps.getD 82 undef = (.bool false) := hdep 10 _ 82 rfl rfl ⟨⟨10, .guard⟩, by simp, rfl, rfl⟩
                have t13 : a.tmps.getD 85 undef = (.string (st sg)) := hdep 13 _ 85 rfl rfl ⟨⟨13, .data⟩, by simp, rfl, rfl⟩
                have t17 : a.tmps.getD 89 undef = (.string (st tl)) := hdep 17 _ 89 rfl rfl ⟨⟨17, .data⟩, by simp, rfl, rfl⟩
                exact .want rfl rfl (by rw [hsz]; simp) gg (wp_val (w' := wa) (v := (.bool (!decide (sg = tl)))) (by simp only [execOp, Act.eval]; rw [show a.tmps.getD 85 undef = _ from t13, show a.tmps.getD 89 undef = _ from t17]; simp only [Sem.run_bind, eg_s, str_ne, Result.andThen_ok, Sem.run_pure]) (hK _ _ (Below.refl _ _) rfl))
              | 19, _ => exact absurd rfl hj
              | _ + 20, hop => exact absurd hop (by simp)
            · intro a wa hwa hdf hsz hsl hrr K hK
              have t10 : a.tmps.getD 82 undef = (.bool false) := hrr 10 _ 82 rfl (by decide) rfl
              have t18 : a.tmps.getD 90 undef = (.bool (!decide (sg = tl))) := hrr 18 _ 90 rfl (by decide) rfl
              refine .plain rfl (wp_val (w' := wa) (v := (.bool (!decide (sg = tl)))) (by simp only [execOp, Act.eval]; rw [show a.tmps.getD 82 undef = _ from t10, show a.tmps.getD 90 undef = _ from t18]; rfl) ?_)
              refine hK _ wa ?_
              have hact := act_puts hdf hsz hsl
              clear hrr hsl hdf hsz hK t10 t18
              simp only [List.filterMap_cons, List.filterMap_nil, List.foldl_cons, List.foldl_nil] at hact
              rw [hact]
              generalize a.tmps.getD 72 undef = y72
              generalize a.tmps.getD 73 undef = y73
              generalize a.tmps.getD 74 undef = y74
              generalize a.tmps.getD 75 undef = y75
              generalize a.tmps.getD 76 undef = y76
              generalize a.tmps.getD 77 undef = y77
              generalize a.tmps.getD 78 undef = y78
              generalize a.tmps.getD 79 undef = y79
              generalize a.tmps.getD 80 undef = y80
              generalize a.tmps.getD 81 undef = y81
              generalize a.tmps.getD 82 undef = y82
              generalize a.tmps.getD 83 undef = y83
              generalize a.tmps.getD 84 undef = y84
              generalize a.tmps.getD 85 undef = y85
              generalize a.tmps.getD 86 undef = y86
              generalize a.tmps.getD 87 undef = y87
              generalize a.tmps.getD 88 undef = y88
              generalize a.tmps.getD 89 undef = y89
              generalize a.tmps.getD 90 undef = y90
              clear hact
              simp only [Act.put, List.setIfInBounds_toArray, List.set_cons_succ, List.set_cons_zero]
              have hf2 := hide1 (hfin.out wa hwa)
              clear hfin hsg hA2 hwa
              by_cases hq : sg = tl
              · have hd : (!decide (sg = tl)) = false := by rw [decide_eq_true hq]; rfl
                rw [if_pos hq, if_pos hq] at hf2
                rw [hd]
                clear hd hq
                go_wp2
                go_ret2
                exact hf2.out
              · have hd : (!decide (sg = tl)) = true := by rw [decide_eq_false hq]; rfl
                rw [if_neg hq, if_neg hq] at hf2
                rw [hd]
                clear hd hq
                go_wp2
                go_ret2
                exact hf2.out
set_option maxHeartbeats 16000000 in
set_option maxRecDepth 100000 in
theorem first_2a {w : World} {sa : Option Addr} {cap : Nat} {x : UInt8} {m : List UInt8} (h : BsA w (.slice sa (m.length + 1) cap) (x :: m)) (hcap : m.length + 1 ≤ cap) (h1 : 192 ≤ x.toNat) (h2 : x.toNat < 208) (hs : 2 ≤ m.length + 1) : Calls Tryz.prog 86 #[.slice sa (m.length + 1) cap] w (AnF w (fgo 2 (x.toNat - 192) (x :: m))) := by
  have hall := h
  obtain ⟨_, _, e, h⟩ := h
  cases e
  obtain ⟨b, o, rfl, hb, hc⟩ := h.resolve_left (by simp)
  have c0 : w.cell? ⟨b, o, none⟩ = some (.int .u8 (x.toNat : Nat)) := hc 0 x rfl
  have hx := x.toNat_lt
  have hR : Hid (fgo 2 (x.toNat - 192) (x :: m) = match fcl (x.toNat - 192) 1 m with
    | none => (0, 0)
    | some c => fend 2 c (x :: m)) := hide1 (by unfold fgo; rw [if_neg (by simp only [List.length_cons]; omega)]; rfl)
  generalize fgo 2 (x.toNat - 192) (x :: m) = R at *
  obtain ⟨N, hN⟩ : ∃ N, Hid (N = m.length) := ⟨_, hide1 rfl⟩
  rw [← hN.out] at hall hs hcap ⊢
  replace hall := hide1 hall
  replace hc := hide1 hc
  go_enter Tryz.func86, Tryz.ntmps86
  go_wp2_with fail
  go_loopw [4, 6] (fun s4 s6 wr => ∃ c i : Nat, s4 = .int .i64 (c : Nat) ∧ s6 = .int .i64 (i : Nat) ∧ ((i = 1 ∧ c < 32) ∨ (i = 2 ∧ c < 2048)) ∧ wr = w ∧ Hid (fcl c (2 - i) (m.drop (i - 1)) = fcl (x.toNat - 192) 1 m)) (fun _ s6 _ => 2 - (intOf s6).toNat)
  case atStart => exact ⟨(x.toNat - 192), 1, by first | rfl | (congr 1; omega), rfl, by omega, rfl, hide1 rfl⟩
  case round =>
    obtain ⟨c, i, rfl, rfl, hci, rfl, hme⟩ := hrel
    by_cases hlt : i < 2
    · obtain ⟨y, hy⟩ : ∃ y, m[i - 1]? = some y := ⟨_, List.getElem?_eq_getElem (by have := hN.out; omega)⟩
      have hy2 := y.toNat_lt
      have ci : wr.cell? ⟨b, o + i, none⟩ = some (.int .u8 (y.toNat : Nat)) := hc.out i y (by
        rw [show i = (i - 1) + 1 by omega, List.getElem?_cons_succ]; exact hy)
      have hst := fcl_at (c := c) (k := 2 - i - 1) hy
      rw [show 2 - i - 1 + 1 = 2 - i by omega, hme.out, show i - 1 + 1 = i by omega] at hst
      have hi1 : 1 ≤ i := by omega
      have hcm : c < 8388608 := by omega
      by_cases hbad : y.toNat < 128
      · have hfin : Hid (AnF wr R (.returned (.tuple #[.int .i64 0, .int .i64 0])) wr) := hide1 ⟨by rw [hR.out, hst, if_pos (.inl hbad)]; rfl, Below.refl _ _⟩
        clear hst hme hR hy hci hcm
        go_wp2
        go_ret2
        exact hfin.out
      · by_cases hbad2 : 191 < y.toNat
        · have hfin : Hid (AnF wr R (.returned (.tuple #[.int .i64 0, .int .i64 0])) wr) := hide1 ⟨by rw [hR.out, hst, if_pos (.inr hbad2)]; rfl, Below.refl _ _⟩
          clear hst hme hR hy hci hcm
          go_wp2
          go_ret2
          exact hfin.out
        · rw [if_neg (by omega)] at hst
          replace hst := hide1 hst
          replace hci := hide1 hci
          clear hme hy
          go_wp2
          go_roundw
          case rel => exact ⟨64 * c + y.toNat - 128, i + 1, by congr 1; omega, rfl, by have := hci.out; omega, by first | rfl | trivial, by
            refine hide1 ?_
            rw [hst.out]
            congr 1⟩
          case measure => simp [intOf]; omega
    · have hi : i = 2 := by omega
      subst hi
      have hme2 : fcl (x.toNat - 192) 1 m = some c := by rw [← hme.out]; rfl
      have hR2 : Hid (R = fend 2 c (x :: m)) := hide1 (by rw [hR.out, hme2])
      have hcm : c < 8388608 := by omega
      clear hme hme2 hR hci hlt hc hs 
      by_cases hbig : 1114111 < c
      · have d1 : decide ((c : Int) > 1114111) = true := decide_eq_true (by omega)
        have hfin : Hid (∀ q, AnF wr R (.returned (.tuple #[.int .i64 0, .int .i64 0])) (wr.drewN q)) := hide1 fun q => ⟨by rw [hR2.out]; unfold fend; rw [if_pos (.inl (.inl hbig))]; rfl, below_drewNv (Below.refl _ _) q⟩
        clear hR2 hbig hcm hall
        go_wp2_with fail
        go_quiet (fail)
        go_wp2
        go_ret2
        exact hfin.out _
      · have d1 : decide ((c : Int) > 1114111) = false := decide_eq_false (by omega)
        by_cases hsur : 55296 ≤ c ∧ c ≤ 57343
        · have d2 : decide ((c : Int) ≥ 55296) = true := decide_eq_true (by omega)
          have d3 : decide ((c : Int) ≤ 57343) = true := decide_eq_true (by omega)
          have hfin : Hid (∀ q, AnF wr R (.returned (.tuple #[.int .i64 0, .int .i64 0])) (wr.drewN q)) := hide1 fun q => ⟨by rw [hR2.out]; unfold fend; rw [if_pos (.inl (.inr hsur))]; rfl, below_drewNv (Below.refl _ _) q⟩
          clear hR2 hbig hsur hcm hall
          go_wp2_with fail
          go_quiet (fail)
          go_wp2
          go_ret2
          exact hfin.out _
        · have hsg := hide1 (fun wa : World => rsign_d (c := c) (by omega) (w := wa))
          have hA2 := hide1 (fun (wa : World) (hb : Below wr.heap.size wr wa) => conv_b ((hall.out.bl hb).take (k := 2) (by simp only [List.length_cons]; have := hN.out; omega) cap))
          have hnd : ¬ bdc c := fun h => h.elim hbig hsur
          have hfin : Hid (∀ wa, Below wr.heap.size wr wa → AnF wr R (.returned (.tuple #[.int .i64 (if sgn c = (x :: m).take 2 then c else 0 : Nat), .int .i64 (if sgn c = (x :: m).take 2 then 2 else 0 : Nat)])) wa) := hide1 fun wa hb => ⟨by
            rw [hR2.out]; unfold fend
            by_cases hq : sgn c = (x :: m).take 2
            · rw [if_pos hq, if_pos hq, if_neg (fun h => h.elim hnd (fun h => h hq))]
            · rw [if_neg hq, if_neg hq, if_pos (.inr hq)], hb⟩
          generalize hsgc : sgn c = sg at *
          generalize (x :: m).take 2 = tl at *
          by_cases hs2 : 55296 ≤ c
          · have d2 : decide ((c : Int) ≥ 55296) = true := decide_eq_true (by omega)
            have d3 : decide ((c : Int) ≤ 57343) = false := decide_eq_false (by omega)
            clear hR2 hbig hsur hcm hall hnd hs2
            go_upto_region 22 with fail
            refine wp_flowG 19 _ _ (by kernel_rfl) (by kernel_rfl) (by kernel_rfl) rfl (fun j v w => if j = 12 then (fun v w => BsA w v sg) v w else v = ([(.int .i64 (c : Nat)), (.bool false), (.bool false), (.int .i64 (c : Nat)), (.bool true), (.bool true), (.int .i64 (c : Nat)), (.bool false), (.bool false), (.bool false), (.bool false), (.int .i64 (c : Nat)), undef, (.string (st sg)), (.slice (some ⟨b, o, none⟩) (N + 1) cap), (.int .i64 2), (.slice (some ⟨b, o, none⟩) 2 cap), (.string (st tl)), (.bool (!decide (sg = tl))), (.bool (!decide (sg = tl)))] : List Value).getD j undef) (fun j v w w' h hb => by
                  by_cases e12 : j = 12
                  · subst e12; exact BsA.bl (l := sg) h hb
                  · simp only [if_neg e12] at h ⊢; exact h
                  ) ?_ ?_
            · intro j op hop hj a wa hwa hsz hsl hdep K hK
              match j, hop with
              | 0, hop =>
                obtain rfl := Option.some.inj hop
                have p4 : a.tmps.getD 4 undef = (.int .i64 (c : Nat)) := hsl 4 rfl
                exact .plain rfl (wp_val (w' := wa) (v := (.int .i64 (c : Nat))) (by simp only [execOp, Act.eval]; rw [show a.tmps.getD 4 undef = _ from p4]; rfl) (hK _ _ (Below.refl _ _) rfl))
              | 1, hop =>
                obtain rfl := Option.some.inj hop
                have t0 : a.tmps.getD 72 undef = (.int .i64 (c : Nat)) := hdep 0 _ 72 rfl rfl ⟨⟨0, .data⟩, by simp, rfl, rfl⟩
                exact .plain rfl (wp_val (w' := wa) (v := (.bool false)) (by simp only [execOp, Act.eval]; rw [show a.tmps.getD 72 undef = _ from t0]; simp only [Sem.run_bind, eg_gt, bi_gt, d1, Result.andThen_ok, Sem.run_pure]) (hK _ _ (Below.refl _ _) rfl))
              | 2, hop =>
                obtain rfl := Option.some.inj hop
                have t1 : a.tmps.getD 73 undef = (.bool false) := hdep 1 _ 73 rfl rfl ⟨⟨1, .data⟩, by simp, rfl, rfl⟩
                exact .plain rfl (wp_val (w' := wa) (v := (.bool false)) (by simp only [execOp, Act.eval]; rw [show a.tmps.getD 73 undef = _ from t1]; rfl) (hK _ _ (Below.refl _ _) rfl))
              | 3, hop =>
                obtain rfl := Option.some.inj hop
                have gg : a.tmps.getD 74 undef = (.bool false) := hdep 2 _ 74 rfl rfl ⟨⟨2, .guard⟩, by simp, rfl, rfl⟩
                have p4 : a.tmps.getD 4 undef = (.int .i64 (c : Nat)) := hsl 4 rfl
                exact .want rfl rfl (by rw [hsz]; simp) gg (wp_val (w' := wa) (v := (.int .i64 (c : Nat))) (by simp only [execOp, Act.eval]; rw [show a.tmps.getD 4 undef = _ from p4]; rfl) (hK _ _ (Below.refl _ _) rfl))
              | 4, hop =>
                obtain rfl := Option.some.inj hop
                have gg : a.tmps.getD 74 undef = (.bool false) := hdep 2 _ 74 rfl rfl ⟨⟨2, .guard⟩, by simp, rfl, rfl⟩
                have t3 : a.tmps.getD 75 undef = (.int .i64 (c : Nat)) := hdep 3 _ 75 rfl rfl ⟨⟨3, .data⟩, by simp, rfl, rfl⟩
                exact .want rfl rfl (by rw [hsz]; simp) gg (wp_val (w' := wa) (v := (.bool true)) (by simp only [execOp, Act.eval]; rw [show a.tmps.getD 75 undef = _ from t3]; simp only [Sem.run_bind, eg_ge, bi_ge, d2, Result.andThen_ok, Sem.run_pure]) (hK _ _ (Below.refl _ _) rfl))
              | 5, hop =>
                obtain rfl := Option.some.inj hop
                have gg : a.tmps.getD 74 undef = (.bool false) := hdep 2 _ 74 rfl rfl ⟨⟨2, .guard⟩, by simp, rfl, rfl⟩
                have t4 : a.tmps.getD 76 undef = (.bool true) := hdep 4 _ 76 rfl rfl ⟨⟨4, .data⟩, by simp, rfl, rfl⟩
                exact .want rfl rfl (by rw [hsz]; simp) gg (wp_val (w' := wa) (v := (.bool true)) (by simp only [execOp, Act.eval]; rw [show a.tmps.getD 76 undef = _ from t4]; rfl) (hK _ _ (Below.refl _ _) rfl))
              | 6, hop =>
                obtain rfl := Option.some.inj hop
                have gg : a.tmps.getD 77 undef = (.bool true) := hdep 5 _ 77 rfl rfl ⟨⟨5, .guard⟩, by simp, rfl, rfl⟩
                have p4 : a.tmps.getD 4 undef = (.int .i64 (c : Nat)) := hsl 4 rfl
                exact .want rfl rfl (by rw [hsz]; simp) gg (wp_val (w' := wa) (v := (.int .i64 (c : Nat))) (by simp only [execOp, Act.eval]; rw [show a.tmps.getD 4 undef = _ from p4]; rfl) (hK _ _ (Below.refl _ _) rfl))
              | 7, hop =>
                obtain rfl := Option.some.inj hop
                have gg : a.tmps.getD 77 undef = (.bool true) := hdep 5 _ 77 rfl rfl ⟨⟨5, .guard⟩, by simp, rfl, rfl⟩
                have t6 : a.tmps.getD 78 undef = (.int .i64 (c : Nat)) := hdep 6 _ 78 rfl rfl ⟨⟨6, .data⟩, by simp, rfl, rfl⟩
                exact .want rfl rfl (by rw [hsz]; simp) gg (wp_val (w' := wa) (v := (.bool false)) (by simp only [execOp, Act.eval]; rw [show a.tmps.getD 78 undef = _ from t6]; simp only [Sem.run_bind, eg_le, bi_le, d3, Result.andThen_ok, Sem.run_pure]) (hK _ _ (Below.refl _ _) rfl))
              | 8, hop =>
                obtain rfl := Option.some.inj hop
                have gg : a.tmps.getD 74 undef = (.bool false) := hdep 2 _ 74 rfl rfl ⟨⟨2, .guard⟩, by simp, rfl, rfl⟩
                have t5 : a.tmps.getD 77 undef = (.bool true) := hdep 5 _ 77 rfl rfl ⟨⟨5, .data⟩, by simp, rfl, rfl⟩
                have t7 : a.tmps.getD 79 undef = (.bool false) := hdep 7 _ 79 rfl rfl ⟨⟨7, .data⟩, by simp, rfl, rfl⟩
                exact .want rfl rfl (by rw [hsz]; simp) gg (wp_val (w' := wa) (v := (.bool false)) (by simp only [execOp, Act.eval]; rw [show a.tmps.getD 77 undef = _ from t5, show a.tmps.getD 79 undef = _ from t7]; rfl) (hK _ _ (Below.refl _ _) rfl))
              | 9, hop =>
                obtain rfl := Option.some.inj hop
                have t2 : a.tmps.getD 74 undef = (.bool false) := hdep 2 _ 74 rfl rfl ⟨⟨2, .data⟩, by simp, rfl, rfl⟩
                have t8 : a.tmps.getD 80 undef = (.bool false) := hdep 8 _ 80 rfl rfl ⟨⟨8, .data⟩, by simp, rfl, rfl⟩
                exact .plain rfl (wp_val (w' := wa) (v := (.bool false)) (by simp only [execOp, Act.eval]; rw [show a.tmps.getD 74 undef = _ from t2, show a.tmps.getD 80 undef = _ from t8]; rfl) (hK _ _ (Below.refl _ _) rfl))
              | 10, hop =>
                obtain rfl := Option.some.inj hop
                have t9 : a.tmps.getD 81 undef = (.bool false) := hdep 9 _ 81 rfl rfl ⟨⟨9, .data⟩, by simp, rfl, rfl⟩
                exact .plain rfl (wp_val (w' := wa) (v := (.bool false)) (by simp only [execOp, Act.eval]; rw [show a.tmps.getD 81 undef = _ from t9]; rfl) (hK _ _ (Below.refl _ _) rfl))
              | 11, hop =>
                obtain rfl := Option.some.inj hop
                have gg : a.tmps.getD 82 undef = (.bool false) := hdep 10 _ 82 rfl rfl ⟨⟨10, .guard⟩, by simp, rfl, rfl⟩
                have p4 : a.tmps.getD 4 undef = (.int .i64 (c : Nat)) := hsl 4 rfl
                exact .want rfl rfl (by rw [hsz]; simp) gg (wp_val (w' := wa) (v := (.int .i64 (c : Nat))) (by simp only [execOp, Act.eval]; rw [show a.tmps.getD 4 undef = _ from p4]; rfl) (hK _ _ (Below.refl _ _) rfl))
              | 12, hop =>
                obtain rfl := Option.some.inj hop
                have gg : a.tmps.getD 82 undef = (.bool false) := hdep 10 _ 82 rfl rfl ⟨⟨10, .guard⟩, by simp, rfl, rfl⟩
                have t11 : a.tmps.getD 83 undef = (.int .i64 (c : Nat)) := hdep 11 _ 83 rfl rfl ⟨⟨11, .data⟩, by simp, rfl, rfl⟩
                refine .want rfl rfl (by rw [hsz]; simp) gg (oper_any (J := fun r w' => (fun v w => BsA w v sg) r w' ∧ Below wa.heap.size wa w') 88 #[.tmp 83] _ rfl #[(.int .i64 (c : Nat))] (by simp only [List.map_toArray, List.map_cons, List.map_nil, Act.eval]; rw [show a.tmps.getD 83 undef = _ from t11]) (fun w => by kernel_rfl) ((hsg.out wa).mono fun e w' h => ⟨_, h.1, by rw [h.2, ← hsgc]; exact bc_at, by rw [h.2]; exact below_al _⟩) ?_)
                rintro r w' ⟨hr, hb⟩
                exact hK _ _ hb hr
              | 13, hop =>
                obtain rfl := Option.some.inj hop
                have gg : a.tmps.getD 82 undef = (.bool false) := hdep 10 _ 82 rfl rfl ⟨⟨10, .guard⟩, by simp, rfl, rfl⟩
                have t12 : (fun v w => BsA w v sg) (a.tmps.getD 84 undef) wa := hdep 12 _ 84 rfl rfl ⟨⟨12, .data⟩, by simp, rfl, rfl⟩
                exact .want rfl rfl (by rw [hsz]; simp) gg (wp_val (w' := wa) (v := (.string (st sg))) (by simp only [execOp, Act.eval]; simp only [Sem.run_bind, conv_b t12, Result.andThen_ok, Sem.run_pure]) (hK _ _ (Below.refl _ _) rfl))
              | 14, hop =>
                obtain rfl := Option.some.inj hop
                have gg : a.tmps.getD 82 undef = (.bool false) := hdep 10 _ 82 rfl rfl ⟨⟨10, .guard⟩, by simp, rfl, rfl⟩
                have p0 : a.tmps.getD 0 undef = (.slice (some ⟨b, o, none⟩) (N + 1) cap) := hsl 0 rfl
                exact .want rfl rfl (by rw [hsz]; simp) gg (wp_val (w' := wa) (v := (.slice (some ⟨b, o, none⟩) (N + 1) cap)) (by simp only [execOp, Act.eval]; rw [show a.tmps.getD 0 undef = _ from p0]; rfl) (hK _ _ (Below.refl _ _) rfl))
              | 15, hop =>
                obtain rfl := Option.some.inj hop
                have gg : a.tmps.getD 82 undef = (.bool false) := hdep 10 _ 82 rfl rfl ⟨⟨10, .guard⟩, by simp, rfl, rfl⟩
                have p5 : a.tmps.getD 5 undef = (.int .i64 2) := hsl 5 rfl
                exact .want rfl rfl (by rw [hsz]; simp) gg (wp_val (w' := wa) (v := (.int .i64 2)) (by simp only [execOp, Act.eval]; rw [show a.tmps.getD 5 undef = _ from p5]; rfl) (hK _ _ (Below.refl _ _) rfl))
              | 16, hop =>
                obtain rfl := Option.some.inj hop
                have gg : a.tmps.getD 82 undef = (.bool false) := hdep 10 _ 82 rfl rfl ⟨⟨10, .guard⟩, by simp, rfl, rfl⟩
                have t14 : a.tmps.getD 86 undef = (.slice (some ⟨b, o, none⟩) (N + 1) cap) := hdep 14 _ 86 rfl rfl ⟨⟨14, .data⟩, by simp, rfl, rfl⟩
                have t15 : a.tmps.getD 87 undef = (.int .i64 2) := hdep 15 _ 87 rfl rfl ⟨⟨15, .data⟩, by simp, rfl, rfl⟩
                exact .want rfl rfl (by rw [hsz]; simp) gg (wp_val (w' := wa) (v := (.slice (some ⟨b, o, none⟩) 2 cap)) (by simp only [execOp, Act.eval, Option.map_some, Option.map_none]; rw [show a.tmps.getD 86 undef = _ from t14, show a.tmps.getD 87 undef = _ from t15]; simp only [Sem.run_bind, sl_to (k := 2) (i := 2) rfl (show 2 ≤ cap by omega), Result.andThen_ok, Sem.run_pure]) (hK _ _ (Below.refl _ _) rfl))
              | 17, hop =>
                obtain rfl := Option.some.inj hop
                have gg : a.tmps.getD 82 undef = (.bool false) := hdep 10 _ 82 rfl rfl ⟨⟨10, .guard⟩, by simp, rfl, rfl⟩
                have t16 : a.tmps.getD 88 undef = (.slice (some ⟨b, o, none⟩) 2 cap) := hdep 16 _ 88 rfl rfl ⟨⟨16, .data⟩, by simp, rfl, rfl⟩
                exact .want rfl rfl (by rw [hsz]; simp) gg (wp_val (w' := wa) (v := (.string (st tl))) (by simp only [execOp, Act.eval]; rw [show a.tmps.getD 88 undef = _ from t16]; simp only [Sem.run_bind, hA2.out wa hwa, Result.andThen_ok, Sem.run_pure]) (hK _ _ (Below.refl _ _) rfl))
              | 18, hop =>
                obtain rfl := Option.some.inj hop
                have gg : a.tmps.getD 82 undef = (.bool false) := hdep 10 _ 82 rfl rfl ⟨⟨10, .guard⟩, by simp, rfl, rfl⟩
                have t13 : a.tmps.getD 85 undef = (.string (st sg)) := hdep 13 _ 85 rfl rfl ⟨⟨13, .data⟩, by simp, rfl, rfl⟩
                have t17 : a.tmps.getD 89 undef = (.string (st tl)) := hdep 17 _ 89 rfl rfl ⟨⟨17, .data⟩, by simp, rfl, rfl⟩
                exact .want rfl rfl (by rw [hsz]; simp) gg (wp_val (w' := wa) (v := (.bool (!decide (sg = tl)))) (by simp only [execOp, Act.eval]; rw [show a.tmps.getD 85 undef = _ from t13, show a.tmps.getD 89 undef = _ from t17]; simp only [Sem.run_bind, eg_s, str_ne, Result.andThen_ok, Sem.run_pure]) (hK _ _ (Below.refl _ _) rfl))
              | 19, _ => exact absurd rfl hj
              | _ + 20, hop => exact absurd hop (by simp)
            · intro a wa hwa hdf hsz hsl hrr K hK
              have t10 : a.tmps.getD 82 undef = (.bool false) := hrr 10 _ 82 rfl (by decide) rfl
              have t18 : a.tmps.getD 90 undef = (.bool (!decide (sg = tl))) := hrr 18 _ 90 rfl (by decide) rfl
              refine .plain rfl (wp_val (w' := wa) (v := (.bool (!decide (sg = tl)))) (by simp only [execOp, Act.eval]; rw [show a.tmps.getD 82 undef = _ from t10, show a.tmps.getD 90 undef = _ from t18]; rfl) ?_)
              refine hK _ wa ?_
              have hact := act_puts hdf hsz hsl
              clear hrr hsl hdf hsz hK t10 t18
              simp only [List.filterMap_cons, List.filterMap_nil, List.foldl_cons, List.foldl_nil] at hact
              rw [hact]
              generalize a.tmps.getD 72 undef = y72
              generalize a.tmps.getD 73 undef = y73
              generalize a.tmps.getD 74 undef = y74
              generalize a.tmps.getD 75 undef = y75
              generalize a.tmps.getD 76 undef = y76
              generalize a.tmps.getD 77 undef = y77
              generalize a.tmps.getD 78 undef = y78
              generalize a.tmps.getD 79 undef = y79
              generalize a.tmps.getD 80 undef = y80
              generalize a.tmps.getD 81 undef = y81
              generalize a.tmps.getD 82 undef = y82
              generalize a.tmps.getD 83 undef = y83
              generalize a.tmps.getD 84 undef = y84
              generalize a.tmps.getD 85 undef = y85
              generalize a.tmps.getD 86 undef = y86
              generalize a.tmps.getD 87 undef = y87
              generalize a.tmps.getD 88 undef = y88
              generalize a.tmps.getD 89 undef = y89
              generalize a.tmps.getD 90 undef = y90
              clear hact
              simp only [Act.put, List.setIfInBounds_toArray, List.set_cons_succ, List.set_cons_zero]
              have hf2 := hide1 (hfin.out wa hwa)
              clear hfin hsg hA2 hwa
              by_cases hq : sg = tl
              · have hd : (!decide (sg = tl)) = false := by rw [decide_eq_true hq]; rfl
                rw [if_pos hq, if_pos hq] at hf2
                rw [hd]
                clear hd hq
                go_wp2
                go_ret2
                exact hf2.out
              · have hd : (!decide (sg = tl)) = true := by rw [decide_eq_false hq]; rfl
                rw [if_neg hq, if_neg hq] at hf2
                rw [hd]
                clear hd hq
                go_wp2
                go_ret2
                exact hf2.out
          · have d2 : decide ((c : Int) ≥ 55296) = false := decide_eq_false (by omega)
            clear hR2 hbig hsur hcm hall hnd hs2
            go_upto_region 22 with fail
            refine wp_flowG 19 _ _ (by kernel_rfl) (by kernel_rfl) (by kernel_rfl) rfl (fun j v w => if j = 12 then (fun v w => BsA w v sg) v w else v = ([(.int .i64 (c : Nat)), (.bool false), (.bool false), (.int .i64 (c : Nat)), (.bool false), (.bool false), undef, undef, (.bool false), (.bool false), (.bool false), (.int .i64 (c : Nat)), undef, (.string (st sg)), (.slice (some ⟨b, o, none⟩) (N + 1) cap), (.int .i64 2), (.slice (some ⟨b, o, none⟩) 2 cap), (.string (st tl)), (.bool (!decide (sg = tl))), (.bool (!decide (sg = tl)))] : List Value).getD j undef) (fun j v w w' h hb => by
                  by_cases e12 : j = 12
                  · subst e12; exact BsA.bl (l := sg) h hb
                  · simp only [if_neg e12] at h ⊢; exact h
                  ) ?_ ?_
            · intro j op hop hj a wa hwa hsz hsl hdep K hK
              match j, hop with
              | 0, hop =>
                obtain rfl := Option.some.inj hop
                have p4 : a.tmps.getD 4 undef = (.int .i64 (c : Nat)) := hsl 4 rfl
                exact .plain rfl (wp_val (w' := wa) (v := (.int .i64 (c : Nat))) (by simp only [execOp, Act.eval]; rw [show a.tmps.getD 4 undef = _ from p4]; rfl) (hK _ _ (Below.refl _ _) rfl))
              | 1, hop =>
                obtain rfl := Option.some.inj hop
                have t0 : a.tmps.getD 72 undef = (.int .i64 (c : Nat)) := hdep 0 _ 72 rfl rfl ⟨⟨0, .data⟩, by simp, rfl, rfl⟩
                exact .plain rfl (wp_val (w' := wa) (v := (.bool false)) (by simp only [execOp, Act.eval]; rw [show a.tmps.getD 72 undef = _ from t0]; simp only [Sem.run_bind, eg_gt, bi_gt, d1, Result.andThen_ok, Sem.run_pure]) (hK _ _ (Below.refl _ _) rfl))
              | 2, hop =>
                obtain rfl := Option.some.inj hop
                have t1 : a.tmps.getD 73 undef = (.bool false) := hdep 1 _ 73 rfl rfl ⟨⟨1, .data⟩, by simp, rfl, rfl⟩
                exact .plain rfl (wp_val (w' := wa) (v := (.bool false)) (by simp only [execOp, Act.eval]; rw [show a.tmps.getD 73 undef = _ from t1]; rfl) (hK _ _ (Below.refl _ _) rfl))
              | 3, hop =>
                obtain rfl := Option.some.inj hop
                have gg : a.tmps.getD 74 undef = (.bool false) := hdep 2 _ 74 rfl rfl ⟨⟨2, .guard⟩, by simp, rfl, rfl⟩
                have p4 : a.tmps.getD 4 undef = (.int .i64 (c : Nat)) := hsl 4 rfl
                exact .want rfl rfl (by rw [hsz]; simp) gg (wp_val (w' := wa) (v := (.int .i64 (c : Nat))) (by simp only [execOp, Act.eval]; rw [show a.tmps.getD 4 undef = _ from p4]; rfl) (hK _ _ (Below.refl _ _) rfl))
              | 4, hop =>
                obtain rfl := Option.some.inj hop
                have gg : a.tmps.getD 74 undef = (.bool false) := hdep 2 _ 74 rfl rfl ⟨⟨2, .guard⟩, by simp, rfl, rfl⟩
                have t3 : a.tmps.getD 75 undef = (.int .i64 (c : Nat)) := hdep 3 _ 75 rfl rfl ⟨⟨3, .data⟩, by simp, rfl, rfl⟩
                exact .want rfl rfl (by rw [hsz]; simp) gg (wp_val (w' := wa) (v := (.bool false)) (by simp only [execOp, Act.eval]; rw [show a.tmps.getD 75 undef = _ from t3]; simp only [Sem.run_bind, eg_ge, bi_ge, d2, Result.andThen_ok, Sem.run_pure]) (hK _ _ (Below.refl _ _) rfl))
              | 5, hop =>
                obtain rfl := Option.some.inj hop
                have gg : a.tmps.getD 74 undef = (.bool false) := hdep 2 _ 74 rfl rfl ⟨⟨2, .guard⟩, by simp, rfl, rfl⟩
                have t4 : a.tmps.getD 76 undef = (.bool false) := hdep 4 _ 76 rfl rfl ⟨⟨4, .data⟩, by simp, rfl, rfl⟩
                exact .want rfl rfl (by rw [hsz]; simp) gg (wp_val (w' := wa) (v := (.bool false)) (by simp only [execOp, Act.eval]; rw [show a.tmps.getD 76 undef = _ from t4]; rfl) (hK _ _ (Below.refl _ _) rfl))
              | 6, hop =>
                obtain rfl := Option.some.inj hop
                have gg : a.tmps.getD 77 undef = (.bool false) := hdep 5 _ 77 rfl rfl ⟨⟨5, .guard⟩, by simp, rfl, rfl⟩
                exact .skip rfl rfl (by rw [hsz]; simp) gg (hK _ _ (Below.refl _ _) rfl)
              | 7, hop =>
                obtain rfl := Option.some.inj hop
                have gg : a.tmps.getD 77 undef = (.bool false) := hdep 5 _ 77 rfl rfl ⟨⟨5, .guard⟩, by simp, rfl, rfl⟩
                exact .skip rfl rfl (by rw [hsz]; simp) gg (hK _ _ (Below.refl _ _) rfl)
              | 8, hop =>
                obtain rfl := Option.some.inj hop
                have gg : a.tmps.getD 74 undef = (.bool false) := hdep 2 _ 74 rfl rfl ⟨⟨2, .guard⟩, by simp, rfl, rfl⟩
                have t5 : a.tmps.getD 77 undef = (.bool false) := hdep 5 _ 77 rfl rfl ⟨⟨5, .data⟩, by simp, rfl, rfl⟩
                have t7 : a.tmps.getD 79 undef = undef := hdep 7 _ 79 rfl rfl ⟨⟨7, .data⟩, by simp, rfl, rfl⟩
                exact .want rfl rfl (by rw [hsz]; simp) gg (wp_val (w' := wa) (v := (.bool false)) (by simp only [execOp, Act.eval]; rw [show a.tmps.getD 77 undef = _ from t5, show a.tmps.getD 79 undef = _ from t7]; rfl) (hK _ _ (Below.refl _ _) rfl))
              | 9, hop =>
                obtain rfl := Option.some.inj hop
                have t2 : a.tmps.getD 74 undef = (.bool false) := hdep 2 _ 74 rfl rfl ⟨⟨2, .data⟩, by simp, rfl, rfl⟩
                have t8 : a.tmps.getD 80 undef = (.bool false) := hdep 8 _ 80 rfl rfl ⟨⟨8, .data⟩, by simp, rfl, rfl⟩
                exact .plain rfl (wp_val (w' := wa) (v := (.bool false)) (by simp only [execOp, Act.eval]; rw [show a.tmps.getD 74 undef = _ from t2, show a.tmps.getD 80 undef = _ from t8]; rfl) (hK _ _ (Below.refl _ _) rfl))
              | 10, hop =>
                obtain rfl := Option.some.inj hop
                have t9 : a.tmps.getD 81 undef = (.bool false) := hdep 9 _ 81 rfl rfl ⟨⟨9, .data⟩, by simp, rfl, rfl⟩
                exact .plain rfl (wp_val (w' := wa) (v := (.bool false)) (by simp only [execOp, Act.eval]; rw [show a.tmps.getD 81 undef = _ from t9]; rfl) (hK _ _ (Below.refl _ _) rfl))
              | 11, hop =>
                obtain rfl := Option.some.inj hop
                have gg : a.tmps.getD 82 undef = (.bool false) := hdep 10 _ 82 rfl rfl ⟨⟨10, .guard⟩, by simp, rfl, rfl⟩
                have p4 : a.tmps.getD 4 undef = (.int .i64 (c : Nat)) := hsl 4 rfl
                exact .want rfl rfl (by rw [hsz]; simp) gg (wp_val (w' := wa) (v := (.int .i64 (c : Nat))) (by simp only [execOp, Act.eval]; rw [show a.tmps.getD 4 undef = _ from p4]; rfl) (hK _ _ (Below.refl _ _) rfl))
              | 12, hop =>
                obtain rfl := Option.some.inj hop
                have gg : a.tmps.getD 82 undef = (.bool false) := hdep 10 _ 82 rfl rfl ⟨⟨10, .guard⟩, by simp, rfl, rfl⟩
                have t11 : a.tmps.getD 83 undef = (.int .i64 (c : Nat)) := hdep 11 _ 83 rfl rfl ⟨⟨11, .data⟩, by simp, rfl, rfl⟩
                refine .want rfl rfl (by rw [hsz]; simp) gg (oper_any (J := fun r w' => (fun v w => BsA w v sg) r w' ∧ Below wa.heap.size wa w') 88 #[.tmp 83] _ rfl #[(.int .i64 (c : Nat))] (by simp only [List.map_toArray, List.map_cons, List.map_nil, Act.eval]; rw [show a.tmps.getD 83 undef = _ from t11]) (fun w => by kernel_rfl) ((hsg.out wa).mono fun e w' h => ⟨_, h.1, by rw [h.2, ← hsgc]; exact bc_at, by rw [h.2]; exact below_al _⟩) ?_)
                rintro r w' ⟨hr, hb⟩
                exact hK _ _ hb hr
              | 13, hop =>
                obtain rfl := Option.some.inj hop
                have gg : a.tmps.getD 82 undef = (.bool false) := hdep 10 _ 82 rfl rfl ⟨⟨10, .guard⟩, by simp, rfl, rfl⟩
                have t12 : (fun v w => BsA w v sg) (a.tmps.getD 84 undef) wa := hdep 12 _ 84 rfl rfl ⟨⟨12, .data⟩, by simp, rfl, rfl⟩
                exact .want rfl rfl (by rw [hsz]; simp) gg (wp_val (w' := wa) (v := (.string (st sg))) (by simp only [execOp, Act.eval]; simp only [Sem.run_bind, conv_b t12, Result.andThen_ok, Sem.run_pure]) (hK _ _ (Below.refl _ _) rfl))
              | 14, hop =>
                obtain rfl := Option.some.inj hop
                have gg : a.tmps.getD 82 undef = (.bool false) := hdep 10 _ 82 rfl rfl ⟨⟨10, .guard⟩, by simp, rfl, rfl⟩
                have p0 : a.tmps.getD 0 undef = (.slice (some ⟨b, o, none⟩) (N + 1) cap) := hsl 0 rfl
                exact .want rfl rfl (by rw [hsz]; simp) gg (wp_val (w' := wa) (v := (.slice (some ⟨b, o, none⟩) (N + 1) cap)) (by simp only [execOp, Act.eval]; rw [show a.tmps.getD 0 undef = _ from p0]; rfl) (hK _ _ (Below.refl _ _) rfl))
              | 15, hop =>
                obtain rfl := Option.some.inj hop
                have gg : a.tmps.getD 82 undef = (.bool false) := hdep 10 _ 82 rfl rfl ⟨⟨10, .guard⟩, by simp, rfl, rfl⟩
                have p5 : a.tmps.getD 5 undef = (.int .i64 2) := hsl 5 rfl
                exact .want rfl rfl (by rw [hsz]; simp) gg (wp_val (w' := wa) (v := (.int .i64 2)) (by simp only [execOp, Act.eval]; rw [show a.tmps.getD 5 undef = _ from p5]; rfl) (hK _ _ (Below.refl _ _) rfl))
              | 16, hop =>
                obtain rfl := Option.some.inj hop
                have gg : a.tmps.getD 82 undef = (.bool false) := hdep 10 _ 82 rfl rfl ⟨⟨10, .guard⟩, by simp, rfl, rfl⟩
                have t14 : a.tmps.getD 86 undef = (.slice (some ⟨b, o, none⟩) (N + 1) cap) := hdep 14 _ 86 rfl rfl ⟨⟨14, .data⟩, by simp, rfl, rfl⟩
                have t15 : a.tmps.getD 87 undef = (.int .i64 2) := hdep 15 _ 87 rfl rfl ⟨⟨15, .data⟩, by simp, rfl, rfl⟩
                exact .want rfl rfl (by rw [hsz]; simp) gg (wp_val (w' := wa) (v := (.slice (some ⟨b, o, none⟩) 2 cap)) (by simp only [execOp, Act.eval, Option.map_some, Option.map_none]; rw [show a.tmps.getD 86 undef = _ from t14, show a.tmps.getD 87 undef = _ from t15]; simp only [Sem.run_bind, sl_to (k := 2) (i := 2) rfl (show 2 ≤ cap by omega), Result.andThen_ok, Sem.run_pure]) (hK _ _ (Below.refl _ _) rfl))
              | 17, hop =>
                obtain rfl := Option.some.inj hop
                have gg : a.tmps.getD 82 undef = (.bool false) := hdep 10 _ 82 rfl rfl ⟨⟨10, .guard⟩, by simp, rfl, rfl⟩
                have t16 : a.tmps.getD 88 undef = (.slice (some ⟨b, o, none⟩) 2 cap) := hdep 16 _ 88 rfl rfl ⟨⟨16, .data⟩, by simp, rfl, rfl⟩
                exact .want rfl rfl (by rw [hsz]; simp) gg (wp_val (w' := wa) (v := (.string (st tl))) (by simp only [execOp, Act.eval]; rw [show a.tmps.getD 88 undef = _ from t16]; simp only [Sem.run_bind, hA2.out wa hwa, Result.andThen_ok, Sem.run_pure]) (hK _ _ (Below.refl _ _) rfl))
              | 18, hop =>
                obtain rfl := Option.some.inj hop
                have gg : a.tmps.getD 82 undef = (.bool false) := hdep 10 _ 82 rfl rfl ⟨⟨10, .guard⟩, by simp, rfl, rfl⟩
                have t13 : a.tmps.getD 85 undef = (.string (st sg)) := hdep 13 _ 85 rfl rfl ⟨⟨13, .data⟩, by simp, rfl, rfl⟩
                have t17 : a.tmps.getD 89 undef = (.string (st tl)) := hdep 17 _ 89 rfl rfl ⟨⟨17, .data⟩, by simp, rfl, rfl⟩
                exact .want rfl rfl (by rw [hsz]; simp) gg (wp_val (w' := wa) (v := (.bool (!decide (sg = tl)))) (by simp only [execOp, Act.eval]; rw [show a.tmps.getD 85 undef = _ from t13, show a.tmps.getD 89 undef = _ from t17]; simp only [Sem.run_bind, eg_s, str_ne, Result.andThen_ok, Sem.run_pure]) (hK _ _ (Below.refl _ _) rfl))
              | 19, _ => exact absurd rfl hj
              | _ + 20, hop => exact absurd hop (by simp)
            · intro a wa hwa hdf hsz hsl hrr K hK
              have t10 : a.tmps.getD 82 undef = (.bool false) := hrr 10 _ 82 rfl (by decide) rfl
              have t18 : a.tmps.getD 90 undef = (.bool (!decide (sg = tl))) := hrr 18 _ 90 rfl (by decide) rfl
              refine .plain rfl (wp_val (w' := wa) (v := (.bool (!decide (sg = tl)))) (by simp only [execOp, Act.eval]; rw [show a.tmps.getD 82 undef = _ from t10, show a.tmps.getD 90 undef = _ from t18]; rfl) ?_)
              refine hK _ wa ?_
              have hact := act_puts hdf hsz hsl
              clear hrr hsl hdf hsz hK t10 t18
              simp only [List.filterMap_cons, List.filterMap_nil, List.foldl_cons, List.foldl_nil] at hact
              rw [hact]
              generalize a.tmps.getD 72 undef = y72
              generalize a.tmps.getD 73 undef = y73
              generalize a.tmps.getD 74 undef = y74
              generalize a.tmps.getD 75 undef = y75
              generalize a.tmps.getD 76 undef = y76
              generalize a.tmps.getD 77 undef = y77
              generalize a.tmps.getD 78 undef = y78
              generalize a.tmps.getD 79 undef = y79
              generalize a.tmps.getD 80 undef = y80
              generalize a.tmps.getD 81 undef = y81
              generalize a.tmps.getD 82 undef = y82
              generalize a.tmps.getD 83 undef = y83
              generalize a.tmps.getD 84 undef = y84
              generalize a.tmps.getD 85 undef = y85
              generalize a.tmps.getD 86 undef = y86
              generalize a.tmps.getD 87 undef = y87
              generalize a.tmps.getD 88 undef = y88
              generalize a.tmps.getD 89 undef = y89
              generalize a.tmps.getD 90 undef = y90
              clear hact
              simp only [Act.put, List.setIfInBounds_toArray, List.set_cons_succ, List.set_cons_zero]
              have hf2 := hide1 (hfin.out wa hwa)
              clear hfin hsg hA2 hwa
              by_cases hq : sg = tl
              · have hd : (!decide (sg = tl)) = false := by rw [decide_eq_true hq]; rfl
                rw [if_pos hq, if_pos hq] at hf2
                rw [hd]
                clear hd hq
                go_wp2
                go_ret2
                exact hf2.out
              · have hd : (!decide (sg = tl)) = true := by rw [decide_eq_false hq]; rfl
                rw [if_neg hq, if_neg hq] at hf2
                rw [hd]
                clear hd hq
                go_wp2
                go_ret2
                exact hf2.out
set_option maxHeartbeats 16000000 in
set_option maxRecDepth 100000 in
theorem first_2b {w : World} {sa : Option Addr} {cap : Nat} {x : UInt8} {m : List UInt8} (h : BsA w (.slice sa (m.length + 1) cap) (x :: m)) (hcap : m.length + 1 ≤ cap) (h1 : 208 ≤ x.toNat) (h2 : x.toNat < 224) (hs : 2 ≤ m.length + 1) : Calls Tryz.prog 86 #[.slice sa (m.length + 1) cap] w (AnF w (fgo 2 (x.toNat - 192) (x :: m))) := by
  have hall := h
  obtain ⟨_, _, e, h⟩ := h
  cases e
  obtain ⟨b, o, rfl, hb, hc⟩ := h.resolve_left (by simp)
  have c0 : w.cell? ⟨b, o, none⟩ = some (.int .u8 (x.toNat : Nat)) := hc 0 x rfl
  have hx := x.toNat_lt
  have hR : Hid (fgo 2 (x.toNat - 192) (x :: m) = match fcl (x.toNat - 192) 1 m with
    | none => (0, 0)
    | some c => fend 2 c (x :: m)) := hide1 (by unfold fgo; rw [if_neg (by simp only [List.length_cons]; omega)]; rfl)
  generalize fgo 2 (x.toNat - 192) (x :: m) = R at *
  obtain ⟨N, hN⟩ : ∃ N, Hid (N = m.length) := ⟨_, hide1 rfl⟩
  rw [← hN.out] at hall hs hcap ⊢
  replace hall := hide1 hall
  replace hc := hide1 hc
  go_enter Tryz.func86, Tryz.ntmps86
  go_wp2_with fail
  go_loopw [4, 6] (fun s4 s6 wr => ∃ c i : Nat, s4 = .int .i64 (c : Nat) ∧ s6 = .int .i64 (i : Nat) ∧ ((i = 1 ∧ c < 32) ∨ (i = 2 ∧ c < 2048)) ∧ wr = w ∧ Hid (fcl c (2 - i) (m.drop (i - 1)) = fcl (x.toNat - 192) 1 m)) (fun _ s6 _ => 2 - (intOf s6).toNat)
  case atStart => exact ⟨(x.toNat - 192), 1, by first | rfl | (congr 1; omega), rfl, by omega, rfl, hide1 rfl⟩
  case round =>
    obtain ⟨c, i, rfl, rfl, hci, rfl, hme⟩ := hrel
    by_cases hlt : i < 2
    · obtain ⟨y, hy⟩ : ∃ y, m[i - 1]? = some y := ⟨_, List.getElem?_eq_getElem (by have := hN.out; omega)⟩
      have hy2 := y.toNat_lt
      have ci : wr.cell? ⟨b, o + i, none⟩ = some (.int .u8 (y.toNat : Nat)) := hc.out i y (by
        rw [show i = (i - 1) + 1 by omega, List.getElem?_cons_succ]; exact hy)
      have hst := fcl_at (c := c) (k := 2 - i - 1) hy
      rw [show 2 - i - 1 + 1 = 2 - i by omega, hme.out, show i - 1 + 1 = i by omega] at hst
      have hi1 : 1 ≤ i := by omega
      have hcm : c < 8388608 := by omega
      by_cases hbad : y.toNat < 128
      · have hfin : Hid (AnF wr R (.returned (.tuple #[.int .i64 0, .int .i64 0])) wr) := hide1 ⟨by rw [hR.out, hst, if_pos (.inl hbad)]; rfl, Below.refl _ _⟩
        clear hst hme hR hy hci hcm
        go_wp2
        go_ret2
        exact hfin.out
      · by_cases hbad2 : 191 < y.toNat
        · have hfin : Hid (AnF wr R (.returned (.tuple #[.int .i64 0, .int .i64 0])) wr) := hide1 ⟨by rw [hR.out, hst, if_pos (.inr hbad2)]; rfl, Below.refl _ _⟩
          clear hst hme hR hy hci hcm
          go_wp2
          go_ret2
          exact hfin.out
        · rw [if_neg (by omega)] at hst
          replace hst := hide1 hst
          replace hci := hide1 hci
          clear hme hy
          go_wp2
          go_roundw
          case rel => exact ⟨64 * c + y.toNat - 128, i + 1, by congr 1; omega, rfl, by have := hci.out; omega, by first | rfl | trivial, by
            refine hide1 ?_
            rw [hst.out]
            congr 1⟩
          case measure => simp [intOf]; omega
    · have hi : i = 2 := by omega
      subst hi
      have hme2 : fcl (x.toNat - 192) 1 m = some c := by rw [← hme.out]; rfl
      have hR2 : Hid (R = fend 2 c (x :: m)) := hide1 (by rw [hR.out, hme2])
      have hcm : c < 8388608 := by omega
      clear hme hme2 hR hci hlt hc hs 
      by_cases hbig : 1114111 < c
      · have d1 : decide ((c : Int) > 1114111) = true := decide_eq_true (by omega)
        have hfin : Hid (∀ q, AnF wr R (.returned (.tuple #[.int .i64 0, .int .i64 0])) (wr.drewN q)) := hide1 fun q => ⟨by rw [hR2.out]; unfold fend; rw [if_pos (.inl (.inl hbig))]; rfl, below_drewNv (Below.refl _ _) q⟩
        clear hR2 hbig hcm hall
        go_wp2_with fail
        go_quiet (fail)
        go_wp2
        go_ret2
        exact hfin.out _
      · have d1 : decide ((c : Int) > 1114111) = false := decide_eq_false (by omega)
        by_cases hsur : 55296 ≤ c ∧ c ≤ 57343
        · have d2 : decide ((c : Int) ≥ 55296) = true := decide_eq_true (by omega)
          have d3 : decide ((c : Int) ≤ 57343) = true := decide_eq_true (by omega)
          have hfin : Hid (∀ q, AnF wr R (.returned (.tuple #[.int .i64 0, .int .i64 0])) (wr.drewN q)) := hide1 fun q => ⟨by rw [hR2.out]; unfold fend; rw [if_pos (.inl (.inr hsur))]; rfl, below_drewNv (Below.refl _ _) q⟩
          clear hR2 hbig hsur hcm hall
          go_wp2_with fail
          go_quiet (fail)
          go_wp2
          go_ret2
          exact hfin.out _
        · have hsg := hide1 (fun wa : World => rsign_d (c := c) (by omega) (w := wa))
          have hA2 := hide1 (fun (wa : World) (hb : Below wr.heap.size wr wa) => conv_b ((hall.out.bl hb).take (k := 2) (by simp only [List.length_cons]; have := hN.out; omega) cap))
          have hnd : ¬ bdc c := fun h => h.elim hbig hsur
          have hfin : Hid (∀ wa, Below wr.heap.size wr wa → AnF wr R (.returned (.tuple #[.int .i64 (if sgn c = (x :: m).take 2 then c else 0 : Nat), .int .i64 (if sgn c = (x :: m).take 2 then 2 else 0 : Nat)])) wa) := hide1 fun wa hb => ⟨by
            rw [hR2.out]; unfold fend
            by_cases hq : sgn c = (x :: m).take 2
            · rw [if_pos hq, if_pos hq, if_neg (fun h => h.elim hnd (fun h => h hq))]
            · rw [if_neg hq, if_neg hq, if_pos (.inr hq)], hb⟩
          generalize hsgc : sgn c = sg at *
          generalize (x :: m).take 2 = tl at *
          by_cases hs2 : 55296 ≤ c
          · have d2 : decide ((c : Int) ≥ 55296) = true := decide_eq_true (by omega)
            have d3 : decide ((c : Int) ≤ 57343) = false := decide_eq_false (by omega)
            clear hR2 hbig hsur hcm hall hnd hs2
            go_upto_region 22 with fail
            refine wp_flowG 19 _ _ (by kernel_rfl) (by kernel_rfl) (by kernel_rfl) rfl (fun j v w => if j = 12 then (fun v w => BsA w v sg) v w else v = ([(.int .i64 (c : Nat)), (.bool false), (.bool false), (.int .i64 (c : Nat)), (.bool true), (.bool true), (.int .i64 (c : Nat)), (.bool false), (.bool false), (.bool false), (.bool false), (.int .i64 (c : Nat)), undef, (.string (st sg)), (.slice (some ⟨b, o, none⟩) (N + 1) cap), (.int .i64 2), (.slice (some ⟨b, o, none⟩) 2 cap), (.string (st tl)), (.bool (!decide (sg = tl))), (.bool (!decide (sg = tl)))] : List Value).getD j undef) (fun j v w w' h hb => by
                  by_cases e12 : j = 12
                  · subst e12; exact BsA.bl (l := sg) h hb
                  · simp only [if_neg e12] at h ⊢; exact h
                  ) ?_ ?_
            · intro j op hop hj a wa hwa hsz hsl hdep K hK
              match j, hop with
              | 0, hop =>
                obtain rfl := Option.some.inj hop
                have p4 : a.tmps.getD 4 undef = (.int .i64 (c : Nat)) := hsl 4 rfl
                exact .plain rfl (wp_val (w' := wa) (v := (.int .i64 (c : Nat))) (by simp only [execOp, Act.eval]; rw [show a.tmps.getD 4 undef = _ from p4]; rfl) (hK _ _ (Below.refl _ _) rfl))
              | 1, hop =>
                obtain rfl := Option.some.inj hop
                have t0 : a.tmps.getD 72 undef = (.int .i64 (c : Nat)) := hdep 0 _ 72 rfl rfl ⟨⟨0, .data⟩, by simp, rfl, rfl⟩
                exact .plain rfl (wp_val (w' := wa) (v := (.bool false)) (by simp only [execOp, Act.eval]; rw [show a.tmps.getD 72 undef = _ from t0]; simp only [Sem.run_bind, eg_gt, bi_gt, d1, Result.andThen_ok, Sem.run_pure]) (hK _ _ (Below.refl _ _) rfl))
              | 2, hop =>
                obtain rfl := Option.some.inj hop
                have t1 : a.tmps.getD 73 undef = (.bool false) := hdep 1 _ 73 rfl rfl ⟨⟨1, .data⟩, by simp, rfl, rfl⟩
                exact .plain rfl (wp_val (w' := wa) (v := (.bool false)) (by simp only [execOp, Act.eval]; rw [show a.tmps.getD 73 undef = _ from t1]; rfl) (hK _ _ (Below.refl _ _) rfl))
              | 3, hop =>
                obtain rfl := Option.some.inj hop
                have gg : a.tmps.getD 74 undef = (.bool false) := hdep 2 _ 74 rfl rfl ⟨⟨2, .guard⟩, by simp, rfl, rfl⟩
                have p4 : a.tmps.getD 4 undef = (.int .i64 (c : Nat)) := hsl 4 rfl
                exact .want rfl rfl (by rw [hsz]; simp) gg (wp_val (w' := wa) (v := (.int .i64 (c : Nat))) (by simp only [execOp, Act.eval]; rw [show a.tmps.getD 4 undef = _ from p4]; rfl) (hK _ _ (Below.refl _ _) rfl))
              | 4, hop =>
                obtain rfl := Option.some.inj hop
                have gg : a.tmps.getD 74 undef = (.bool false) := hdep 2 _ 74 rfl rfl ⟨⟨2, .guard⟩, by simp, rfl, rfl⟩
                have t3 : a.tmps.getD 75 undef = (.int .i64 (c : Nat)) := hdep 3 _ 75 rfl rfl ⟨⟨3, .data⟩, by simp, rfl, rfl⟩
                exact .want rfl rfl (by rw [hsz]; simp) gg (wp_val (w' := wa) (v := (.bool true)) (by simp only [execOp, Act.eval]; rw [show a.tmps.getD 75 undef = _ from t3]; simp only [Sem.run_bind, eg_ge, bi_ge, d2, Result.andThen_ok, Sem.run_pure]) (hK _ _ (Below.refl _ _) rfl))
              | 5, hop =>
                obtain rfl := Option.some.inj hop
                have gg : a.tmps.getD 74 undef = (.bool false) := hdep 2 _ 74 rfl rfl ⟨⟨2, .guard⟩, by simp, rfl, rfl⟩
                have t4 : a.tmps.getD 76 undef = (.bool true) := hdep 4 _ 76 rfl rfl ⟨⟨4, .data⟩, by simp, rfl, rfl⟩
                exact .want rfl rfl (by rw [hsz]; simp) gg (wp_val (w' := wa) (v := (.bool true)) (by simp only [execOp, Act.eval]; rw [show a.tmps.getD 76 undef = _ from t4]; rfl) (hK _ _ (Below.refl _ _) rfl))
              | 6, hop =>
                obtain rfl := Option.some.inj hop
                have gg : a.tmps.getD 77 undef = (.bool true) := hdep 5 _ 77 rfl rfl ⟨⟨5, .guard⟩, by simp, rfl, rfl⟩
                have p4 : a.tmps.getD 4 undef = (.int .i64 (c : Nat)) := hsl 4 rfl
                exact .want rfl rfl (by rw [hsz]; simp) gg (wp_val (w' := wa) (v := (.int .i64 (c : Nat))) (by simp only [execOp, Act.eval]; rw [show a.tmps.getD 4 undef = _ from p4]; rfl) (hK _ _ (Below.refl _ _) rfl))
              | 7, hop =>
                obtain rfl := Option.some.inj hop
                have gg : a.tmps.getD 77 undef = (.bool true) := hdep 5 _ 77 rfl rfl ⟨⟨5, .guard⟩, by simp, rfl, rfl⟩
                have t6 : a.tmps.getD 78 undef = (.int .i64 (c : Nat)) := hdep 6 _ 78 rfl rfl ⟨⟨6, .data⟩, by simp, rfl, rfl⟩
                exact .want rfl rfl (by rw [hsz]; simp) gg (wp_val (w' := wa) (v := (.bool false)) (by simp only [execOp, Act.eval]; rw [show a.tmps.getD 78 undef = _ from t6]; simp only [Sem.run_bind, eg_le, bi_le, d3, Result.andThen_ok, Sem.run_pure]) (hK _ _ (Below.refl _ _) rfl))
              | 8, hop =>
                obtain rfl := Option.some.inj hop
                have gg : a.tmps.getD 74 undef = (.bool false) := hdep 2 _ 74 rfl rfl ⟨⟨2, .guard⟩, by simp, rfl, rfl⟩
                have t5 : a.tmps.getD 77 undef = (.bool true) := hdep 5 _ 77 rfl rfl ⟨⟨5, .data⟩, by simp, rfl, rfl⟩
                have t7 : a.tmps.getD 79 undef = (.bool false) := hdep 7 _ 79 rfl rfl ⟨⟨7, .data⟩, by simp, rfl, rfl⟩
                exact .want rfl rfl (by rw [hsz]; simp) gg (wp_val (w' := wa) (v := (.bool false)) (by simp only [execOp, Act.eval]; rw [show a.tmps.getD 77 undef = _ from t5, show a.tmps.getD 79 undef = _ from t7]; rfl) (hK _ _ (Below.refl _ _) rfl))
              | 9, hop =>
                obtain rfl := Option.some.inj hop
                have t2 : a.tmps.getD 74 undef = (.bool false) := hdep 2 _ 74 rfl rfl ⟨⟨2, .data⟩, by simp, rfl, rfl⟩
                have t8 : a.tmps.getD 80 undef = (.bool false) := hdep 8 _ 80 rfl rfl ⟨⟨8, .data⟩, by simp, rfl, rfl⟩
                exact .plain rfl (wp_val (w' := wa) (v := (.bool false)) (by simp only [execOp, Act.eval]; rw [show a.tmps.getD 74 undef = _ from t2, show a.tmps.getD 80 undef = _ from t8]; rfl) (hK _ _ (Below.refl _ _) rfl))
              | 10, hop =>
                obtain rfl := Option.some.inj hop
                have t9 : a.tmps.getD 81 undef = (.bool false) := hdep 9 _ 81 rfl rfl ⟨⟨9, .data⟩, by simp, rfl, rfl⟩
                exact .plain rfl (wp_val (w' := wa) (v := (.bool false)) (by simp only [execOp, Act.eval]; rw [show a.tmps.getD 81 undef = _ from t9]; rfl) (hK _ _ (Below.refl _ _) rfl))
              | 11, hop =>
                obtain rfl := Option.some.inj hop
                have gg : a.tmps.getD 82 undef = (.bool false) := hdep 10 _ 82 rfl rfl ⟨⟨10, .guard⟩, by simp, rfl, rfl⟩
                have p4 : a.tmps.getD 4 undef = (.int .i64 (c : Nat)) := hsl 4 rfl
                exact .want rfl rfl (by rw [hsz]; simp) gg (wp_val (w' := wa) (v := (.int .i64 (c : Nat))) (by simp only [execOp, Act.eval]; rw [show a.tmps.getD 4 undef = _ from p4]; rfl) (hK _ _ (Below.refl _ _) rfl))
              | 12, hop =>
                obtain rfl := Option.some.inj hop
                have gg : a.tmps.getD 82 undef = (.bool false) := hdep 10 _ 82 rfl rfl ⟨⟨10, .guard⟩, by simp, rfl, rfl⟩
                have t11 : a.tmps.getD 83 undef = (.int .i64 (c : Nat)) := hdep 11 _ 83 rfl rfl ⟨⟨11, .data⟩, by simp, rfl, rfl⟩
                refine .want rfl rfl (by rw [hsz]; simp) gg (oper_any (J := fun r w' => (fun v w => BsA w v sg) r w' ∧ Below wa.heap.size wa w') 88 #[.tmp 83] _ rfl #[(.int .i64 (c : Nat))] (by simp only [List.map_toArray, List.map_cons, List.map_nil, Act.eval]; rw [show a.tmps.getD 83 undef = _ from t11]) (fun w => by kernel_rfl) ((hsg.out wa).mono fun e w' h => ⟨_, h.1, by rw [h.2, ← hsgc]; exact bc_at, by rw [h.2]; exact below_al _⟩) ?_)
                rintro r w' ⟨hr, hb⟩
                exact hK _ _ hb hr
              | 13, hop =>
                obtain rfl := Option.some.inj hop
                have gg : a.tmps.getD 82 undef = (.bool false) := hdep 10 _ 82 rfl rfl ⟨⟨10, .guard⟩, by simp, rfl, rfl⟩
                have t12 : (fun v w => BsA w v sg) (a.tmps.getD 84 undef) wa := hdep 12 _ 84 rfl rfl ⟨⟨12, .data⟩, by simp, rfl, rfl⟩
                exact .want rfl rfl (by rw [hsz]; simp) gg (wp_val (w' := wa) (v := (.string (st sg))) (by simp only [execOp, Act.eval]; simp only [Sem.run_bind, conv_b t12, Result.andThen_ok, Sem.run_pure]) (hK _ _ (Below.refl _ _) rfl))
              | 14, hop =>
                obtain rfl := Option.some.inj hop
                have gg : a.tmps.getD 82 undef = (.bool false) := hdep 10 _ 82 rfl rfl ⟨⟨10, .guard⟩, by simp, rfl, rfl⟩
                have p0 : a.tmps.getD 0 undef = (.slice (some ⟨b, o, none⟩) (N + 1) cap) := hsl 0 rfl
                exact .want rfl rfl (by rw [hsz]; simp) gg (wp_val (w' := wa) (v := (.slice (some ⟨b, o, none⟩) (N + 1) cap)) (by simp only [execOp, Act.eval]; rw [show a.tmps.getD 0 undef = _ from p0]; rfl) (hK _ _ (Below.refl _ _) rfl))
              | 15, hop =>
                obtain rfl := Option.some.inj hop
                have gg : a.tmps.getD 82 undef = (.bool false) := hdep 10 _ 82 rfl rfl ⟨⟨10, .guard⟩, by simp, rfl, rfl⟩
                have p5 : a.tmps.getD 5 undef = (.int .i64 2) := hsl 5 rfl
                exact .want rfl rfl (by rw [hsz]; simp) gg (wp_val (w' := wa) (v := (.int .i64 2)) (by simp only [execOp, Act.eval]; rw [show a.tmps.getD 5 undef = _ from p5]; rfl) (hK _ _ (Below.refl _ _) rfl))
              | 16, hop =>
                obtain rfl := Option.some.inj hop
                have gg : a.tmps.getD 82 undef = (.bool false) := hdep 10 _ 82 rfl rfl ⟨⟨10, .guard⟩, by simp, rfl, rfl⟩
                have t14 : a.tmps.getD 86 undef = (.slice (some ⟨b, o, none⟩) (N + 1) cap) := hdep 14 _ 86 rfl rfl ⟨⟨14, .data⟩, by simp, rfl, rfl⟩
                have t15 : a.tmps.getD 87 undef = (.int .i64 2) := hdep 15 _ 87 rfl rfl ⟨⟨15, .data⟩, by simp, rfl, rfl⟩
                exact .want rfl rfl (by rw [hsz]; simp) gg (wp_val (w' := wa) (v := (.slice (some ⟨b, o, none⟩) 2 cap)) (by simp only [execOp, Act.eval, Option.map_some, Option.map_none]; rw [show a.tmps.getD 86 undef = _ from t14, show a.tmps.getD 87 undef = _ from t15]; simp only [Sem.run_bind, sl_to (k := 2) (i := 2) rfl (show 2 ≤ cap by omega), Result.andThen_ok, Sem.run_pure]) (hK _ _ (Below.refl _ _) rfl))
              | 17, hop =>
                obtain rfl := Option.some.inj hop
                have gg : a.tmps.getD 82 undef = (.bool false) := hdep 10 _ 82 rfl rfl ⟨⟨10, .guard⟩, by simp, rfl, rfl⟩
                have t16 : a.tmps.getD 88 undef = (.slice (some ⟨b, o, none⟩) 2 cap) := hdep 16 _ 88 rfl rfl ⟨⟨16, .data⟩, by simp, rfl, rfl⟩
                exact .want rfl rfl (by rw [hsz]; simp) gg (wp_val (w' := wa) (v := (.string (st tl))) (by simp only [execOp, Act.eval]; rw [show a.tmps.getD 88 undef = _ from t16]; simp only [Sem.run_bind, hA2.out wa hwa, Result.andThen_ok, Sem.run_pure]) (hK _ _ (Below.refl _ _) rfl))
              | 18, hop =>
                obtain rfl := Option.some.inj hop
                have gg : a.tmps.getD 82 undef = (.bool false) := hdep 10 _ 82 rfl rfl ⟨⟨10, .guard⟩, by simp, rfl, rfl⟩
                have t13 : a.tmps.getD 85 undef = (.string (st sg)) := hdep 13 _ 85 rfl rfl ⟨⟨13, .data⟩, by simp, rfl, rfl⟩
                have t17 : a.tmps.getD 89 undef = (.string (st tl)) := hdep 17 _ 89 rfl rfl ⟨⟨17, .data⟩, by simp, rfl, rfl⟩
                exact .want rfl rfl (by rw [hsz]; simp) gg (wp_val (w' := wa) (v := (.bool (!decide (sg = tl)))) (by simp only [execOp, Act.eval]; rw [show a.tmps.getD 85 undef = _ from t13, show a.tmps.getD 89 undef = _ from t17]; simp only [Sem.run_bind, eg_s, str_ne, Result.andThen_ok, Sem.run_pure]) (hK _ _ (Below.refl _ _) rfl))
              | 19, _ => exact absurd rfl hj
              | _ + 20, hop => exact absurd hop (by simp)
            · intro a wa hwa hdf hsz hsl hrr K hK
              have t10 : a.tmps.getD 82 undef = (.bool false) := hrr 10 _ 82 rfl (by decide) rfl
              have t18 : a.tmps.getD 90 undef = (.bool (!decide (sg = tl))) := hrr 18 _ 90 rfl (by decide) rfl
              refine .plain rfl (wp_val (w' := wa) (v := (.bool (!decide (sg = tl)))) (by simp only [execOp, Act.eval]; rw [show a.tmps.getD 82 undef = _ from t10, show a.tmps.getD 90 undef = _ from t18]; rfl) ?_)
              refine hK _ wa ?_
              have hact := act_puts hdf hsz hsl
              clear hrr hsl hdf hsz hK t10 t18
              simp only [List.filterMap_cons, List.filterMap_nil, List.foldl_cons, List.foldl_nil] at hact
              rw [hact]
              generalize a.tmps.getD 72 undef = y72
              generalize a.tmps.getD 73 undef = y73
              generalize a.tmps.getD 74 undef = y74
              generalize a.tmps.getD 75 undef = y75
              generalize a.tmps.getD 76 undef = y76
              generalize a.tmps.getD 77 undef = y77
              generalize a.tmps.getD 78 undef = y78
              generalize a.tmps.getD 79 undef = y79
              generalize a.tmps.getD 80 undef = y80
              generalize a.tmps.getD 81 undef = y81
              generalize a.tmps.getD 82 undef = y82
              generalize a.tmps.getD 83 undef = y83
              generalize a.tmps.getD 84 undef = y84
              generalize a.tmps.getD 85 undef = y85
              generalize a.tmps.getD 86 undef = y86
              generalize a.tmps.getD 87 undef = y87
              generalize a.tmps.getD 88 undef = y88
              generalize a.tmps.getD 89 undef = y89
              generalize a.tmps.getD 90 undef = y90
              clear hact
              simp only [Act.put, List.setIfInBounds_toArray, List.set_cons_succ, List.set_cons_zero]
              have hf2 := hide1 (hfin.out wa hwa)
              clear hfin hsg hA2 hwa
              by_cases hq : sg = tl
              · have hd : (!decide (sg = tl)) = false := by rw [decide_eq_true hq]; rfl
                rw [if_pos hq, if_pos hq] at hf2
                rw [hd]
                clear hd hq
                go_wp2
                go_ret2
                exact hf2.out
              · have hd : (!decide (sg = tl)) = true := by rw [decide_eq_false hq]; rfl
                rw [if_neg hq, if_neg hq] at hf2
                rw [hd]
                clear hd hq
                go_wp2
                go_ret2
                exact hf2.out
          · have d2 : decide ((c : Int) ≥ 55296) = false := decide_eq_false (by omega)
            clear hR2 hbig hsur hcm hall hnd hs2
            go_upto_region 22 with fail
            refine wp_flowG 19 _ _ (by kernel_rfl) (by kernel_rfl) (by kernel_rfl) rfl (fun j v w => if j = 12 then (fun v w => BsA w v sg) v w else v = ([(.int .i64 (c : Nat)), (.bool false), (.bool false), (.int .i64 (c : Nat)), (.bool false), (.bool false), undef, undef, (.bool false), (.bool false), (.bool false), (.int .i64 (c : Nat)), undef, (.string (st sg)), (.slice (some ⟨b, o, none⟩) (N + 1) cap), (.int .i64 2), (.slice (some ⟨b, o, none⟩) 2 cap), (.string (st tl)), (.bool (!decide (sg = tl))), (.bool (!decide (sg = tl)))] : List Value).getD j undef) (fun j v w w' h hb => by
                  by_cases e12 : j = 12
                  · subst e12; exact BsA.bl (l := sg) h hb
                  · simp only [if_neg e12] at h ⊢; exact h
                  ) ?_ ?_
            · intro j op hop hj a wa hwa hsz hsl hdep K hK
              match j, hop with
              | 0, hop =>
                obtain rfl := Option.some.inj hop
                have p4 : a.tmps.getD 4 undef = (.int .i64 (c : Nat)) := hsl 4 rfl
                exact .plain rfl (wp_val (w' := wa) (v := (.int .i64 (c : Nat))) (by simp only [execOp, Act.eval]; rw [show a.tmps.getD 4 undef = _ from p4]; rfl) (hK _ _ (Below.refl _ _) rfl))
              | 1, hop =>
                obtain rfl := Option.some.inj hop
                have t0 : a.tmps.getD 72 undef = (.int .i64 (c : Nat)) := hdep 0 _ 72 rfl rfl ⟨⟨0, .data⟩, by simp, rfl, rfl⟩
                exact .plain rfl (wp_val (w' := wa) (v := (.bool false)) (by simp only [execOp, Act.eval]; rw [show a.tmps.getD 72 undef = _ from t0]; simp only [Sem.run_bind, eg_gt, bi_gt, d1, Result.andThen_ok, Sem.run_pure]) (hK _ _ (Below.refl _ _) rfl))
              | 2, hop =>
                obtain rfl := Option.some.inj hop
                have t1 : a.tmps.getD 73 undef = (.bool false) := hdep 1 _ 73 rfl rfl ⟨⟨1, .data⟩, by simp, rfl, rfl⟩
                exact .plain rfl (wp_val (w' := wa) (v := (.bool false)) (by simp only [execOp, Act.eval]; rw [show a.tmps.getD 73 undef = _ from t1]; rfl) (hK _ _ (Below.refl _ _) rfl))
              | 3, hop =>
                obtain rfl := Option.some.inj hop
                have gg : a.tmps.getD 74 undef = (.bool false) := hdep 2 _ 74 rfl rfl ⟨⟨2, .guard⟩, by simp, rfl, rfl⟩
                have p4 : a.tmps.getD 4 undef = (.int .i64 (c : Nat)) := hsl 4 rfl
                exact .want rfl rfl (by rw [hsz]; simp) gg (wp_val (w' := wa) (v := (.int .i64 (c : Nat))) (by simp only [execOp, Act.eval]; rw [show a.tmps.getD 4 undef = _ from p4]; rfl) (hK _ _ (Below.refl _ _) rfl))
              | 4, hop =>
                obtain rfl := Option.some.inj hop
                have gg : a.tmps.getD 74 undef = (.bool false) := hdep 2 _ 74 rfl rfl ⟨⟨2, .guard⟩, by simp, rfl, rfl⟩
                have t3 : a.tmps.getD 75 undef = (.int .i64 (c : Nat)) := hdep 3 _ 75 rfl rfl ⟨⟨3, .data⟩, by simp, rfl, rfl⟩
                exact .want rfl rfl (by rw [hsz]; simp) gg (wp_val (w' := wa) (v := (.bool false)) (by simp only [execOp, Act.eval]; rw [show a.tmps.getD 75 undef = _ from t3]; simp only [Sem.run_bind, eg_ge, bi_ge, d2, Result.andThen_ok, Sem.run_pure]) (hK _ _ (Below.refl _ _) rfl))
              | 5, hop =>
                obtain rfl := Option.some.inj hop
                have gg : a.tmps.getD 74 undef = (.bool false) := hdep 2 _ 74 rfl rfl ⟨⟨2, .guard⟩, by simp, rfl, rfl⟩
                have t4 : a.tmps.getD 76 undef = (.bool false) := hdep 4 _ 76 rfl rfl ⟨⟨4, .data⟩, by simp, rfl, rfl⟩
                exact .want rfl rfl (by rw [hsz]; simp) gg (wp_val (w' := wa) (v := (.bool false)) (by simp only [execOp, Act.eval]; rw [show a.tmps.getD 76 undef = _ from t4]; rfl) (hK _ _ (Below.refl _ _) rfl))
              | 6, hop =>
                obtain rfl := Option.some.inj hop
                have gg : a.tmps.getD 77 undef = (.bool false) := hdep 5 _ 77 rfl rfl ⟨⟨5, .guard⟩, by simp, rfl, rfl⟩
                exact .skip rfl rfl (by rw [hsz]; simp) gg (hK _ _ (Below.refl _ _) rfl)
              | 7, hop =>
                obtain rfl := Option.some.inj hop
                have gg : a.tmps.getD 77 undef = (.bool false) := hdep 5 _ 77 rfl rfl ⟨⟨5, .guard⟩, by simp, rfl, rfl⟩
                exact .skip rfl rfl (by rw [hsz]; simp) gg (hK _ _ (Below.refl _ _) rfl)
              | 8, hop =>
                obtain rfl := Option.some.inj hop
                have gg : a.tmps.getD 74 undef = (.bool false) := hdep 2 _ 74 rfl rfl ⟨⟨2, .guard⟩, by simp, rfl, rfl⟩
                have t5 : a.tmps.getD 77 undef = (.bool false) := hdep 5 _ 77 rfl rfl ⟨⟨5, .data⟩, by simp, rfl, rfl⟩
                have t7 : a.tmps.getD 79 undef = undef := hdep 7 _ 79 rfl rfl ⟨⟨7, .data⟩, by simp, rfl, rfl⟩
                exact .want rfl rfl (by rw [hsz]; simp) gg (wp_val (w' := wa) (v := (.bool false)) (by simp only [execOp, Act.eval]; rw [show a.tmps.getD 77 undef = _ from t5, show a.tmps.getD 79 undef = _ from t7]; rfl) (hK _ _ (Below.refl _ _) rfl))
              | 9, hop =>
                obtain rfl := Option.some.inj hop
                have t2 : a.tmps.getD 74 undef = (.bool false) := hdep 2 _ 74 rfl rfl ⟨⟨2, .data⟩, by simp, rfl, rfl⟩
                have t8 : a.tmps.getD 80 undef = (.bool false) := hdep 8 _ 80 rfl rfl ⟨⟨8, .data⟩, by simp, rfl, rfl⟩
                exact .plain rfl (wp_val (w' := wa) (v := (.bool false)) (by simp only [execOp, Act.eval]; rw [show a.tmps.getD 74 undef = _ from t2, show a.tmps.getD 80 undef = _ from t8]; rfl) (hK _ _ (Below.refl _ _) rfl))
              | 10, hop =>
                obtain rfl := Option.some.inj hop
                have t9 : a.tmps.getD 81 undef = (.bool false) := hdep 9 _ 81 rfl rfl ⟨⟨9, .data⟩, by simp, rfl, rfl⟩
                exact .plain rfl (wp_val (w' := wa) (v := (.bool false)) (by simp only [execOp, Act.eval]; rw [show a.tmps.getD 81 undef = _ from t9]; rfl) (hK _ _ (Below.refl _ _) rfl))
              | 11, hop =>
                obtain rfl := Option.some.inj hop
                have gg : a.tmps.getD 82 undef = (.bool false) := hdep 10 _ 82 rfl rfl ⟨⟨10, .guard⟩, by simp, rfl, rfl⟩
                have p4 : a.tmps.getD 4 undef = (.int .i64 (c : Nat)) := hsl 4 rfl
                exact .want rfl rfl (by rw [hsz]; simp) gg (wp_val (w' := wa) (v := (.int .i64 (c : Nat))) (by simp only [execOp, Act.eval]; rw [show a.tmps.getD 4 undef = _ from p4]; rfl) (hK _ _ (Below.refl _ _) rfl))
              | 12, hop =>
                obtain rfl := Option.some.inj hop
                have gg : a.tmps.getD 82 undef = (.bool false) := hdep 10 _ 82 rfl rfl ⟨⟨10, .guard⟩, by simp, rfl, rfl⟩
                have t11 : a.tmps.getD 83 undef = (.int .i64 (c : Nat)) := hdep 11 _ 83 rfl rfl ⟨⟨11, .data⟩, by simp, rfl, rfl⟩
                refine .want rfl rfl (by rw [hsz]; simp) gg (oper_any (J := fun r w' => (fun v w => BsA w v sg) r w' ∧ Below wa.heap.size wa w') 88 #[.tmp 83] _ rfl #[(.int .i64 (c : Nat))] (by simp only [List.map_toArray, List.map_cons, List.map_nil, Act.eval]; rw [show a.tmps.getD 83 undef = _ from t11]) (fun w => by kernel_rfl) ((hsg.out wa).mono fun e w' h => ⟨_, h.1, by rw [h.2, ← hsgc]; exact bc_at, by rw [h.2]; exact below_al _⟩) ?_)
                rintro r w' ⟨hr, hb⟩
                exact hK _ _ hb hr
              | 13, hop =>
                obtain rfl := Option.some.inj hop
                have gg : a.tmps.getD 82 undef = (.bool false) := hdep 10 _ 82 rfl rfl ⟨⟨10, .guard⟩, by simp, rfl, rfl⟩
                have t12 : (fun v w => BsA w v sg) (a.tmps.getD 84 undef) wa := hdep 12 _ 84 rfl rfl ⟨⟨12, .data⟩, by simp, rfl, rfl⟩
                exact .want rfl rfl (by rw [hsz]; simp) gg (wp_val (w' := wa) (v := (.string (st sg))) (by simp only [execOp, Act.eval]; simp only [Sem.run_bind, conv_b t12, Result.andThen_ok, Sem.run_pure]) (hK _ _ (Below.refl _ _) rfl))
              | 14, hop =>
                obtain rfl := Option.some.inj hop
                have gg : a.tmps.getD 82 undef = (.bool false) := hdep 10 _ 82 rfl rfl ⟨⟨10, .guard⟩, by simp, rfl, rfl⟩
                have p0 : a.tmps.getD 0 undef = (.slice (some ⟨b, o, none⟩) (N + 1) cap) := hsl 0 rfl
                exact .want rfl rfl (by rw [hsz]; simp) gg (wp_val (w' := wa) (v := (.slice (some ⟨b, o, none⟩) (N + 1) cap)) (by simp only [execOp, Act.eval]; rw [show a.tmps.getD 0 undef = _ from p0]; rfl) (hK _ _ (Below.refl _ _) rfl))
              | 15, hop =>
                obtain rfl := Option.some.inj hop
                have gg : a.tmps.getD 82 undef = (.bool false) := hdep 10 _ 82 rfl rfl ⟨⟨10, .guard⟩, by simp, rfl, rfl⟩
                have p5 : a.tmps.getD 5 undef = (.int .i64 2) := hsl 5 rfl
                exact .want rfl rfl (by rw [hsz]; simp) gg (wp_val (w' := wa) (v := (.int .i64 2)) (by simp only [execOp, Act.eval]; rw [show a.tmps.getD 5 undef = _ from p5]; rfl) (hK _ _ (Below.refl _ _) rfl))
              | 16, hop =>
                obtain rfl := Option.some.inj hop
                have gg : a.tmps.getD 82 undef = (.bool false) := hdep 10 _ 82 rfl rfl ⟨⟨10, .guard⟩, by simp, rfl, rfl⟩
                have t14 : a.tmps.getD 86 undef = (.slice (some ⟨b, o, none⟩) (N + 1) cap) := hdep 14 _ 86 rfl rfl ⟨⟨14, .data⟩, by simp, rfl, rfl⟩
                have t15 : a.tmps.getD 87 undef = (.int .i64 2) := hdep 15 _ 87 rfl rfl ⟨⟨15, .data⟩, by simp, rfl, rfl⟩
                exact .want rfl rfl (by rw [hsz]; simp) gg (wp_val (w' := wa) (v := (.slice (some ⟨b, o, none⟩) 2 cap)) (by simp only [execOp, Act.eval, Option.map_some, Option.map_none]; rw [show a.tmps.getD 86 undef = _ from t14, show a.tmps.getD 87 undef = _ from t15]; simp only [Sem.run_bind, sl_to (k := 2) (i := 2) rfl (show 2 ≤ cap by omega), Result.andThen_ok, Sem.run_pure]) (hK _ _ (Below.refl _ _) rfl))
              | 17, hop =>
                obtain rfl := Option.some.inj hop
                have gg : a.tmps.getD 82 undef = (.bool false) := hdep 10 _ 82 rfl rfl ⟨⟨10, .guard⟩, by simp, rfl, rfl⟩
                have t16 : a.tmps.getD 88 undef = (.slice (some ⟨b, o, none⟩) 2 cap) := hdep 16 _ 88 rfl rfl ⟨⟨16, .data⟩, by simp, rfl, rfl⟩
                exact .want rfl rfl (by rw [hsz]; simp) gg (wp_val (w' := wa) (v := (.string (st tl))) (by simp only [execOp, Act.eval]; rw [show a.tmps.getD 88 undef = _ from t16]; simp only [Sem.run_bind, hA2.out wa hwa, Result.andThen_ok, Sem.run_pure]) (hK _ _ (Below.refl _ _) rfl))
              | 18, hop =>
                obtain rfl := Option.some.inj hop
                have gg : a.tmps.getD 82 undef = (.bool false) := hdep 10 _ 82 rfl rfl ⟨⟨10, .guard⟩, by simp, rfl, rfl⟩
                have t13 : a.tmps.getD 85 undef = (.string (st sg)) := hdep 13 _ 85 rfl rfl ⟨⟨13, .data⟩, by simp, rfl, rfl⟩
                have t17 : a.tmps.getD 89 undef = (.string (st tl)) := hdep 17 _ 89 rfl rfl ⟨⟨17, .data⟩, by simp, rfl, rfl⟩
                exact .want rfl rfl (by rw [hsz]; simp) gg (wp_val (w' := wa) (v := (.bool (!decide (sg = tl)))) (by simp only [execOp, Act.eval]; rw [show a.tmps.getD 85 undef = _ from t13, show a.tmps.getD 89 undef = _ from t17]; simp only [Sem.run_bind, eg_s, str_ne, Result.andThen_ok, Sem.run_pure]) (hK _ _ (Below.refl _ _) rfl))
              | 19, _ => exact absurd rfl hj
              | _ + 20, hop => exact absurd hop (by simp)
            · intro a wa hwa hdf hsz hsl hrr K hK
              have t10 : a.tmps.getD 82 undef = (.bool false) := hrr 10 _ 82 rfl (by decide) rfl
              have t18 : a.tmps.getD 90 undef = (.bool (!decide (sg = tl))) := hrr 18 _ 90 rfl (by decide) rfl
              refine .plain rfl (wp_val (w' := wa) (v := (.bool (!decide (sg = tl)))) (by simp only [execOp, Act.eval]; rw [show a.tmps.getD 82 undef = _ from t10, show a.tmps.getD 90 undef = _ from t18]; rfl) ?_)
              refine hK _ wa ?_
              have hact := act_puts hdf hsz hsl
              clear hrr hsl hdf hsz hK t10 t18
              simp only [List.filterMap_cons, List.filterMap_nil, List.foldl_cons, List.foldl_nil] at hact
              rw [hact]
              generalize a.tmps.getD 72 undef = y72
              generalize a.tmps.getD 73 undef = y73
              generalize a.tmps.getD 74 undef = y74
              generalize a.tmps.getD 75 undef = y75
              generalize a.tmps.getD 76 undef = y76
              generalize a.tmps.getD 77 undef = y77
              generalize a.tmps.getD 78 undef = y78
              generalize a.tmps.getD 79 undef = y79
              generalize a.tmps.getD 80 undef = y80
              generalize a.tmps.getD 81 undef = y81
              generalize a.tmps.getD 82 undef = y82
              generalize a.tmps.getD 83 undef = y83
              generalize a.tmps.getD 84 undef = y84
              generalize a.tmps.getD 85 undef = y85
              generalize a.tmps.getD 86 undef = y86
              generalize a.tmps.getD 87 undef = y87
              generalize a.tmps.getD 88 undef = y88
              generalize a.tmps.getD 89 undef = y89
              generalize a.tmps.getD 90 undef = y90
              clear hact
              simp only [Act.put, List.setIfInBounds_toArray, List.set_cons_succ, List.set_cons_zero]
              have hf2 := hide1 (hfin.out wa hwa)
              clear hfin hsg hA2 hwa
              by_cases hq : sg = tl
              · have hd : (!decide (sg = tl)) = false := by rw [decide_eq_true hq]; rfl
                rw [if_pos hq, if_pos hq] at hf2
                rw [hd]
                clear hd hq
                go_wp2
                go_ret2
                exact hf2.out
              · have hd : (!decide (sg = tl)) = true := by rw [decide_eq_false hq]; rfl
                rw [if_neg hq, if_neg hq] at hf2
                rw [hd]
                clear hd hq
                go_wp2
                go_ret2
                exact hf2.out
set_option maxHeartbeats 16000000 in
set_option maxRecDepth 100000 in
theorem first_3 {w : World} {sa : Option Addr} {cap : Nat} {x : UInt8} {m : List UInt8} (h : BsA w (.slice sa (m.length + 1) cap) (x :: m)) (hcap : m.length + 1 ≤ cap) (h1 : 224 ≤ x.toNat) (h2 : x.toNat < 240) (hs : 3 ≤ m.length + 1) : Calls Tryz.prog 86 #[.slice sa (m.length + 1) cap] w (AnF w (fgo 3 (x.toNat - 224) (x :: m))) := by
  have hall := h
  obtain ⟨_, _, e, h⟩ := h
  cases e
  obtain ⟨b, o, rfl, hb, hc⟩ := h.resolve_left (by simp)
  have c0 : w.cell? ⟨b, o, none⟩ = some (.int .u8 (x.toNat : Nat)) := hc 0 x rfl
  have hx := x.toNat_lt
  have hR : Hid (fgo 3 (x.toNat - 224) (x :: m) = match fcl (x.toNat - 224) 2 m with
    | none => (0, 0)
    | some c => fend 3 c (x :: m)) := hide1 (by unfold fgo; rw [if_neg (by simp only [List.length_cons]; omega)]; rfl)
  generalize fgo 3 (x.toNat - 224) (x :: m) = R at *
  obtain ⟨N, hN⟩ : ∃ N, Hid (N = m.length) := ⟨_, hide1 rfl⟩
  rw [← hN.out] at hall hs hcap ⊢
  replace hall := hide1 hall
  replace hc := hide1 hc
  go_enter Tryz.func86, Tryz.ntmps86
  go_wp2_with fail
  go_loopw [4, 6] (fun s4 s6 wr => ∃ c i : Nat, s4 = .int .i64 (c : Nat) ∧ s6 = .int .i64 (i : Nat) ∧ ((i = 1 ∧ c < 32) ∨ (i = 2 ∧ c < 2048) ∨ (i = 3 ∧ c < 131072)) ∧ wr = w ∧ Hid (fcl c (3 - i) (m.drop (i - 1)) = fcl (x.toNat - 224) 2 m)) (fun _ s6 _ => 3 - (intOf s6).toNat)
  case atStart => exact ⟨(x.toNat - 224), 1, by first | rfl | (congr 1; omega), rfl, by omega, rfl, hide1 rfl⟩
  case round =>
    obtain ⟨c, i, rfl, rfl, hci, rfl, hme⟩ := hrel
    by_cases hlt : i < 3
    · obtain ⟨y, hy⟩ : ∃ y, m[i - 1]? = some y := ⟨_, List.getElem?_eq_getElem (by have := hN.out; omega)⟩
      have hy2 := y.toNat_lt
      have ci : wr.cell? ⟨b, o + i, none⟩ = some (.int .u8 (y.toNat : Nat)) := hc.out i y (by
        rw [show i = (i - 1) + 1 by omega, List.getElem?_cons_succ]; exact hy)
      have hst := fcl_at (c := c) (k := 3 - i - 1) hy
      rw [show 3 - i - 1 + 1 = 3 - i by omega, hme.out, show i - 1 + 1 = i by omega] at hst
      have hi1 : 1 ≤ i := by omega
      have hcm : c < 8388608 := by omega
      by_cases hbad : y.toNat < 128
      · have hfin : Hid (AnF wr R (.returned (.tuple #[.int .i64 0, .int .i64 0])) wr) := hide1 ⟨by rw [hR.out, hst, if_pos (.inl hbad)]; rfl, Below.refl _ _⟩
        clear hst hme hR hy hci hcm
        go_wp2
        go_ret2
        exact hfin.out
      · by_cases hbad2 : 191 < y.toNat
        · have hfin : Hid (AnF wr R (.returned (.tuple #[.int .i64 0, .int .i64 0])) wr) := hide1 ⟨by rw [hR.out, hst, if_pos (.inr hbad2)]; rfl, Below.refl _ _⟩
          clear hst hme hR hy hci hcm
          go_wp2
          go_ret2
          exact hfin.out
        · rw [if_neg (by omega)] at hst
          replace hst := hide1 hst
          replace hci := hide1 hci
          clear hme hy
          go_wp2
          go_roundw
          case rel => exact ⟨64 * c + y.toNat - 128, i + 1, by congr 1; omega, rfl, by have := hci.out; omega, by first | rfl | trivial, by
            refine hide1 ?_
            rw [hst.out]
            congr 1⟩
          case measure => simp [intOf]; omega
    · have hi : i = 3 := by omega
      subst hi
      have hme2 : fcl (x.toNat - 224) 2 m = some c := by rw [← hme.out]; rfl
      have hR2 : Hid (R = fend 3 c (x :: m)) := hide1 (by rw [hR.out, hme2])
      have hcm : c < 8388608 := by omega
      clear hme hme2 hR hci hlt hc hs 
      by_cases hbig : 1114111 < c
      · have d1 : decide ((c : Int) > 1114111) = true := decide_eq_true (by omega)
        have hfin : Hid (∀ q, AnF wr R (.returned (.tuple #[.int .i64 0, .int .i64 0])) (wr.drewN q)) := hide1 fun q => ⟨by rw [hR2.out]; unfold fend; rw [if_pos (.inl (.inl hbig))]; rfl, below_drewNv (Below.refl _ _) q⟩
        clear hR2 hbig hcm hall
        go_wp2_with fail
        go_quiet (fail)
        go_wp2
        go_ret2
        exact hfin.out _
      · have d1 : decide ((c : Int) > 1114111) = false := decide_eq_false (by omega)
        by_cases hsur : 55296 ≤ c ∧ c ≤ 57343
        · have d2 : decide ((c : Int) ≥ 55296) = true := decide_eq_true (by omega)
          have d3 : decide ((c : Int) ≤ 57343) = true := decide_eq_true (by omega)
          have hfin : Hid (∀ q, AnF wr R (.returned (.tuple #[.int .i64 0, .int .i64 0])) (wr.drewN q)) := hide1 fun q => ⟨by rw [hR2.out]; unfold fend; rw [if_pos (.inl (.inr hsur))]; rfl, below_drewNv (Below.refl _ _) q⟩
          clear hR2 hbig hsur hcm hall
          go_wp2_with fail
          go_quiet (fail)
          go_wp2
          go_ret2
          exact hfin.out _
        · have hsg := hide1 (fun wa : World => rsign_d (c := c) (by omega) (w := wa))
          have hA2 := hide1 (fun (wa : World) (hb : Below wr.heap.size wr wa) => conv_b ((hall.out.bl hb).take (k := 3) (by simp only [List.length_cons]; have := hN.out; omega) cap))
          have hnd : ¬ bdc c := fun h => h.elim hbig hsur
          have hfin : Hid (∀ wa, Below wr.heap.size wr wa → AnF wr R (.returned (.tuple #[.int .i64 (if sgn c = (x :: m).take 3 then c else 0 : Nat), .int .i64 (if sgn c = (x :: m).take 3 then 3 else 0 : Nat)])) wa) := hide1 fun wa hb => ⟨by
            rw [hR2.out]; unfold fend
            by_cases hq : sgn c = (x :: m).take 3
            · rw [if_pos hq, if_pos hq, if_neg (fun h => h.elim hnd (fun h => h hq))]
            · rw [if_neg hq, if_neg hq, if_pos (.inr hq)], hb⟩
          generalize hsgc : sgn c = sg at *
          generalize (x :: m).take 3 = tl at *
          by_cases hs2 : 55296 ≤ c
          · have d2 : decide ((c : Int) ≥ 55296) = true := decide_eq_true (by omega)
            have d3 : decide ((c : Int) ≤ 57343) = false := decide_eq_false (by omega)
            clear hR2 hbig hsur hcm hall hnd hs2
            go_upto_region 22 with fail
            refine wp_flowG 19 _ _ (by kernel_rfl) (by kernel_rfl) (by kernel_rfl) rfl (fun j v w => if j = 12 then (fun v w => BsA w v sg) v w else v = ([(.int .i64 (c : Nat)), (.bool false), (.bool false), (.int .i64 (c : Nat)), (.bool true), (.bool true), (.int .i64 (c : Nat)), (.bool false), (.bool false), (.bool false), (.bool false), (.int .i64 (c : Nat)), undef, (.string (st sg)), (.slice (some ⟨b, o, none⟩) (N + 1) cap), (.int .i64 3), (.slice (some ⟨b, o, none⟩) 3 cap), (.string (st tl)), (.bool (!decide (sg = tl))), (.bool (!decide (sg = tl)))] : List Value).getD j undef) (fun j v w w' h hb => by
                  by_cases e12 : j = 12
                  · subst e12; exact BsA.bl (l := sg) h hb
                  · simp only [if_neg e12] at h ⊢; exact h
                  ) ?_ ?_
            · intro j op hop hj a wa hwa hsz hsl hdep K hK
              match j, hop with
              | 0, hop =>
                obtain rfl := Option.some.inj hop
                have p4 : a.tmps.getD 4 undef = (.int .i64 (c : Nat)) := hsl 4 rfl
                exact .plain rfl (wp_val (w' := wa) (v := (.int .i64 (c : Nat))) (by simp only [execOp, Act.eval]; rw [show a.tmps.getD 4 undef = _ from p4]; rfl) (hK _ _ (Below.refl _ _) rfl))
              | 1, hop =>
                obtain rfl := Option.some.inj hop
                have t0 : a.tmps.getD 72 undef = (.int .i64 (c : Nat)) := hdep 0 _ 72 rfl rfl ⟨⟨0, .data⟩, by simp, rfl, rfl⟩
                exact .plain rfl (wp_val (w' := wa) (v := (.bool false)) (by simp only [execOp, Act.eval]; rw [show a.tmps.getD 72 undef = _ from t0]; simp only [Sem.run_bind, eg_gt, bi_gt, d1, Result.andThen_ok, Sem.run_pure]) (hK _ _ (Below.refl _ _) rfl))
              | 2, hop =>
                obtain rfl := Option.some.inj hop
                have t1 : a.tmps.getD 73 undef = (.bool false) := hdep 1 _ 73 rfl rfl ⟨⟨1, .data⟩, by simp, rfl, rfl⟩
                exact .plain rfl (wp_val (w' := wa) (v := (.bool false)) (by simp only [execOp, Act.eval]; rw [show a.tmps.getD 73 undef = _ from t1]; rfl) (hK _ _ (Below.refl _ _) rfl))
              | 3, hop =>
                obtain rfl := Option.some.inj hop
                have gg : a.tmps.getD 74 undef = (.bool false) := hdep 2 _ 74 rfl rfl ⟨⟨2, .guard⟩, by simp, rfl, rfl⟩
                have p4 : a.tmps.getD 4 undef = (.int .i64 (c : Nat)) := hsl 4 rfl
                exact .want rfl rfl (by rw [hsz]; simp) gg (wp_val (w' := wa) (v := (.int .i64 (c : Nat))) (by simp only [execOp, Act.eval]; rw [show a.tmps.getD 4 undef = _ from p4]; rfl) (hK _ _ (Below.refl _ _) rfl))
              | 4, hop =>
                obtain rfl := Option.some.inj hop
                have gg : a.tmps.getD 74 undef = (.bool false) := hdep 2 _ 74 rfl rfl ⟨⟨2, .guard⟩, by simp, rfl, rfl⟩
                have t3 : a.tmps.getD 75 undef = (.int .i64 (c : Nat)) := hdep 3 _ 75 rfl rfl ⟨⟨3, .data⟩, by simp, rfl, rfl⟩
                exact .want rfl rfl (by rw [hsz]; simp) gg (wp_val (w' := wa) (v := (.bool true)) (by simp only [execOp, Act.eval]; rw [show a.tmps.getD 75 undef = _ from t3]; simp only [Sem.run_bind, eg_ge, bi_ge, d2, Result.andThen_ok, Sem.run_pure]) (hK _ _ (Below.refl _ _) rfl))
              | 5, hop =>
                obtain rfl := Option.some.inj hop
                have gg : a.tmps.getD 74 undef = (.bool false) := hdep 2 _ 74 rfl rfl ⟨⟨2, .guard⟩, by simp, rfl, rfl⟩
                have t4 : a.tmps.getD 76 undef = (.bool true) := hdep 4 _ 76 rfl rfl ⟨⟨4, .data⟩, by simp, rfl, rfl⟩
                exact .want rfl rfl (by rw [hsz]; simp) gg (wp_val (w' := wa) (v := (.bool true)) (by simp only [execOp, Act.eval]; rw [show a.tmps.getD 76 undef = _ from t4]; rfl) (hK _ _ (Below.refl _ _) rfl))
              | 6, hop =>
                obtain rfl := Option.some.inj hop
                have gg : a.tmps.getD 77 undef = (.bool true) := hdep 5 _ 77 rfl rfl ⟨⟨5, .guard⟩, by simp, rfl, rfl⟩
                have p4 : a.tmps.getD 4 undef = (.int .i64 (c : Nat)) := hsl 4 rfl
                exact .want rfl rfl (by rw [hsz]; simp) gg (wp_val (w' := wa) (v := (.int .i64 (c : Nat))) (by simp only [execOp, Act.eval]; rw [show a.tmps.getD 4 undef = _ from p4]; rfl) (hK _ _ (Below.refl _ _) rfl))
              | 7, hop =>
                obtain rfl := Option.some.inj hop
                have gg : a.tmps.getD 77 undef = (.bool true) := hdep 5 _ 77 rfl rfl ⟨⟨5, .guard⟩, by simp, rfl, rfl⟩
                have t6 : a.tmps.getD 78 undef = (.int .i64 (c : Nat)) := hdep 6 _ 78 rfl rfl ⟨⟨6, .data⟩, by simp, rfl, rfl⟩
                exact .want rfl rfl (by rw [hsz]; simp) gg (wp_val (w' := wa) (v := (.bool false)) (by simp only [execOp, Act.eval]; rw [show a.tmps.getD 78 undef = _ from t6]; simp only [Sem.run_bind, eg_le, bi_le, d3, Result.andThen_ok, Sem.run_pure]) (hK _ _ (Below.refl _ _) rfl))
              | 8, hop =>
                obtain rfl := Option.some.inj hop
                have gg : a.tmps.getD 74 undef = (.bool false) := hdep 2 _ 74 rfl rfl ⟨⟨2, .guard⟩, by simp, rfl, rfl⟩
                have t5 : a.tmps.getD 77 undef = (.bool true) := hdep 5 _ 77 rfl rfl ⟨⟨5, .data⟩, by simp, rfl, rfl⟩
                have t7 : a.tmps.getD 79 undef = (.bool false) := hdep 7 _ 79 rfl rfl ⟨⟨7, .data⟩, by simp, rfl, rfl⟩
                exact .want rfl rfl (by rw [hsz]; simp) gg (wp_val (w' := wa) (v := (.bool false)) (by simp only [execOp, Act.eval]; rw [show a.tmps.getD 77 undef = _ from t5, show a.tmps.getD 79 undef = _ from t7]; rfl) (hK _ _ (Below.refl _ _) rfl))
              | 9, hop =>
                obtain rfl := Option.some.inj hop
                have t2 : a.tmps.getD 74 undef = (.bool false) := hdep 2 _ 74 rfl rfl ⟨⟨2, .data⟩, by simp, rfl, rfl⟩
                have t8 : a.tmps.getD 80 undef = (.bool false) := hdep 8 _ 80 rfl rfl ⟨⟨8, .data⟩, by simp, rfl, rfl⟩
                exact .plain rfl (wp_val (w' := wa) (v := (.bool false)) (by simp only [execOp, Act.eval]; rw [show a.tmps.getD 74 undef = _ from t2, show a.tmps.getD 80 undef = _ from t8]; rfl) (hK _ _ (Below.refl _ _) rfl))
              | 10, hop =>
                obtain rfl := Option.some.inj hop
                have t9 : a.tmps.getD 81 undef = (.bool false) := hdep 9 _ 81 rfl rfl ⟨⟨9, .data⟩, by simp, rfl, rfl⟩
                exact .plain rfl (wp_val (w' := wa) (v := (.bool false)) (by simp only [execOp, Act.eval]; rw [show a.tmps.getD 81 undef = _ from t9]; rfl) (hK _ _ (Below.refl _ _) rfl))
              | 11, hop =>
                obtain rfl := Option.some.inj hop
                have gg : a.tmps.getD 82 undef = (.bool false) := hdep 10 _ 82 rfl rfl ⟨⟨10, .guard⟩, by simp, rfl, rfl⟩
                have p4 : a.tmps.getD 4 undef = (.int .i64 (c : Nat)) := hsl 4 rfl
                exact .want rfl rfl (by rw [hsz]; simp) gg (wp_val (w' := wa) (v := (.int .i64 (c : Nat))) (by simp only [execOp, Act.eval]; rw [show a.tmps.getD 4 undef = _ from p4]; rfl) (hK _ _ (Below.refl _ _) rfl))
              | 12, hop =>
                obtain rfl := Option.some.inj hop
                have gg : a.tmps.getD 82 undef = (.bool false) := hdep 10 _ 82 rfl rfl ⟨⟨10, .guard⟩, by simp, rfl, rfl⟩
                have t11 : a.tmps.getD 83 undef = (.int .i64 (c : Nat)) := hdep 11 _ 83 rfl rfl ⟨⟨11, .data⟩, by simp, rfl, rfl⟩
                refine .want rfl rfl (by rw [hsz]; simp) gg (oper_any (J := fun r w' => (fun v w => BsA w v sg) r w' ∧ Below wa.heap.size wa w') 88 #[.tmp 83] _ rfl #[(.int .i64 (c : Nat))] (by simp only [List.map_toArray, List.map_cons, List.map_nil, Act.eval]; rw [show a.tmps.getD 83 undef = _ from t11]) (fun w => by kernel_rfl) ((hsg.out wa).mono fun e w' h => ⟨_, h.1, by rw [h.2, ← hsgc]; exact bc_at, by rw [h.2]; exact below_al _⟩) ?_)
                rintro r w' ⟨hr, hb⟩
                exact hK _ _ hb hr
              | 13, hop =>
                obtain rfl := Option.some.inj hop
                have gg : a.tmps.getD 82 undef = (.bool false) := hdep 10 _ 82 rfl rfl ⟨⟨10, .guard⟩, by simp, rfl, rfl⟩
                have t12 : (fun v w => BsA w v sg) (a.tmps.getD 84 undef) wa := hdep 12 _ 84 rfl rfl ⟨⟨12, .data⟩, by simp, rfl, rfl⟩
                exact .want rfl rfl (by rw [hsz]; simp) gg (wp_val (w' := wa) (v := (.string (st sg))) (by simp only [execOp, Act.eval]; simp only [Sem.run_bind, conv_b t12, Result.andThen_ok, Sem.run_pure]) (hK _ _ (Below.refl _ _) rfl))
              | 14, hop =>
                obtain rfl := Option.some.inj hop
                have gg : a.tmps.getD 82 undef = (.bool false) := hdep 10 _ 82 rfl rfl ⟨⟨10, .guard⟩, by simp, rfl, rfl⟩
                have p0 : a.tmps.getD 0 undef = (.slice (some ⟨b, o, none⟩) (N + 1) cap) := hsl 0 rfl
                exact .want rfl rfl (by rw [hsz]; simp) gg (wp_val (w' := wa) (v := (.slice (some ⟨b, o, none⟩) (N + 1) cap)) (by simp only [execOp, Act.eval]; rw [show a.tmps.getD 0 undef = _ from p0]; rfl) (hK _ _ (Below.refl _ _) rfl))
              | 15, hop =>
                obtain rfl := Option.some.inj hop
                have gg : a.tmps.getD 82 undef = (.bool false) := hdep 10 _ 82 rfl rfl ⟨⟨10, .guard⟩, by simp, rfl, rfl⟩
                have p5 : a.tmps.getD 5 undef = (.int .i64 3) := hsl 5 rfl
                exact .want rfl rfl (by rw [hsz]; simp) gg (wp_val (w' := wa) (v := (.int .i64 3)) (by simp only [execOp, Act.eval]; rw [show a.tmps.getD 5 undef = _ from p5]; rfl) (hK _ _ (Below.refl _ _) rfl))
              | 16, hop =>
                obtain rfl := Option.some.inj hop
                have gg : a.tmps.getD 82 undef = (.bool false) := hdep 10 _ 82 rfl rfl ⟨⟨10, .guard⟩, by simp, rfl, rfl⟩
                have t14 : a.tmps.getD 86 undef = (.slice (some ⟨b, o, none⟩) (N + 1) cap) := hdep 14 _ 86 rfl rfl ⟨⟨14, .data⟩, by simp, rfl, rfl⟩
                have t15 : a.tmps.getD 87 undef = (.int .i64 3) := hdep 15 _ 87 rfl rfl ⟨⟨15, .data⟩, by simp, rfl, rfl⟩
                exact .want rfl rfl (by rw [hsz]; simp) gg (wp_val (w' := wa) (v := (.slice (some ⟨b, o, none⟩) 3 cap)) (by simp only [execOp, Act.eval, Option.map_some, Option.map_none]; rw [show a.tmps.getD 86 undef = _ from t14, show a.tmps.getD 87 undef = _ from t15]; simp only [Sem.run_bind, sl_to (k := 3) (i := 3) rfl (show 3 ≤ cap by omega), Result.andThen_ok, Sem.run_pure]) (hK _ _ (Below.refl _ _) rfl))
              | 17, hop =>
                obtain rfl := Option.some.inj hop
                have gg : a.tmps.getD 82 undef = (.bool false) := hdep 10 _ 82 rfl rfl ⟨⟨10, .guard⟩, by simp, rfl, rfl⟩
                have t16 : a.tmps.getD 88 undef = (.slice (some ⟨b, o, none⟩) 3 cap) := hdep 16 _ 88 rfl rfl ⟨⟨16, .data⟩, by simp, rfl, rfl⟩
                exact .want rfl rfl (by rw [hsz]; simp) gg (wp_val (w' := wa) (v := (.string (st tl))) (by simp only [execOp, Act.eval]; rw [show a.tmps.getD 88 undef = _ from t16]; simp only [Sem.run_bind, hA2.out wa hwa, Result.andThen_ok, Sem.run_pure]) (hK _ _ (Below.refl _ _) rfl))
              | 18, hop =>
                obtain rfl := Option.some.inj hop
                have gg : a.tmps.getD 82 undef = (.bool false) := hdep 10 _ 82 rfl rfl ⟨⟨10, .guard⟩, by simp, rfl, rfl⟩
                have t13 : a.tmps.getD 85 undef = (.string (st sg)) := hdep 13 _ 85 rfl rfl ⟨⟨13, .data⟩, by simp, rfl, rfl⟩
                have t17 : a.tmps.getD 89 undef = (.string (st tl)) := hdep 17 _ 89 rfl rfl ⟨⟨17, .data⟩, by simp, rfl, rfl⟩
                exact .want rfl rfl (by rw [hsz]; simp) gg (wp_val (w' := wa) (v := (.bool (!decide (sg = tl)))) (by simp only [execOp, Act.eval]; rw [show a.tmps.getD 85 undef = _ from t13, show a.tmps.getD 89 undef = _ from t17]; simp only [Sem.run_bind, eg_s, str_ne, Result.andThen_ok, Sem.run_pure]) (hK _ _ (Below.refl _ _) rfl))
              | 19, _ => exact absurd rfl hj
              | _ + 20, hop => exact absurd hop (by simp)
            · intro a wa hwa hdf hsz hsl hrr K hK
              have t10 : a.tmps.getD 82 undef = (.bool false) := hrr 10 _ 82 rfl (by decide) rfl
              have t18 : a.tmps.getD 90 undef = (.bool (!decide (sg = tl))) := hrr 18 _ 90 rfl (by decide) rfl
              refine .plain rfl (wp_val (w' := wa) (v := (.bool (!decide (sg = tl)))) (by simp only [execOp, Act.eval]; rw [show a.tmps.getD 82 undef = _ from t10, show a.tmps.getD 90 undef = _ from t18]; rfl) ?_)
              refine hK _ wa ?_
              have hact := act_puts hdf hsz hsl
              clear hrr hsl hdf hsz hK t10 t18
              simp only [List.filterMap_cons, List.filterMap_nil, List.foldl_cons, List.foldl_nil] at hact
              rw [hact]
              generalize a.tmps.getD 72 undef = y72
              generalize a.tmps.getD 73 undef = y73
              generalize a.tmps.getD 74 undef = y74
              generalize a.tmps.getD 75 undef = y75
              generalize a.tmps.getD 76 undef = y76
              generalize a.tmps.getD 77 undef = y77
              generalize a.tmps.getD 78 undef = y78
              generalize a.tmps.getD 79 undef = y79
              generalize a.tmps.getD 80 undef = y80
              generalize a.tmps.getD 81 undef = y81
              generalize a.tmps.getD 82 undef = y82
              generalize a.tmps.getD 83 undef = y83
              generalize a.tmps.getD 84 undef = y84
              generalize a.tmps.getD 85 undef = y85
              generalize a.tmps.getD 86 undef = y86
              generalize a.tmps.getD 87 undef = y87
              generalize a.tmps.getD 88 undef = y88
              generalize a.tmps.getD 89 undef = y89
              generalize a.tmps.getD 90 undef = y90
              clear hact
              simp only [Act.put, List.setIfInBounds_toArray, List.set_cons_succ, List.set_cons_zero]
              have hf2 := hide1 (hfin.out wa hwa)
              clear hfin hsg hA2 hwa
              by_cases hq : sg = tl
              · have hd : (!decide (sg = tl)) = false := by rw [decide_eq_true hq]; rfl
                rw [if_pos hq, if_pos hq] at hf2
                rw [hd]
                clear hd hq
                go_wp2
                go_ret2
                exact hf2.out
              · have hd : (!decide (sg = tl)) = true := by rw [decide_eq_false hq]; rfl
                rw [if_neg hq, if_neg hq] at hf2
                rw [hd]
                clear hd hq
                go_wp2
                go_ret2
                exact hf2.out
          · have d2 : decide ((c : Int) ≥ 55296) = false := decide_eq_false (by omega)
            clear hR2 hbig hsur hcm hall hnd hs2
            go_upto_region 22 with fail
            refine wp_flowG 19 _ _ (by kernel_rfl) (by kernel_rfl) (by kernel_rfl) rfl (fun j v w => if j = 12 then (fun v w => BsA w v sg) v w else v = ([(.int .i64 (c : Nat)), (.bool false), (.bool false), (.int .i64 (c : Nat)), (.bool false), (.bool false), undef, undef, (.bool false), (.bool false), (.bool false), (.int .i64 (c : Nat)), undef, (.string (st sg)), (.slice (some ⟨b, o, none⟩) (N + 1) cap), (.int .i64 3), (.slice (some ⟨b, o, none⟩) 3 cap), (.string (st tl)), (.bool (!decide (sg = tl))), (.bool (!decide (sg = tl)))] : List Value).getD j undef) (fun j v w w' h hb => by
                  by_cases e12 : j = 12
                  · subst e12; exact BsA.bl (l := sg) h hb
                  · simp only [if_neg e12] at h ⊢; exact h
                  ) ?_ ?_
            · intro j op hop hj a wa hwa hsz hsl hdep K hK
              match j, hop with
              | 0, hop =>
                obtain rfl := Option.some.inj hop
                have p4 : a.tmps.getD 4 undef = (.int .i64 (c : Nat)) := hsl 4 rfl
                exact .plain rfl (wp_val (w' := wa) (v := (.int .i64 (c : Nat))) (by simp only [execOp, Act.eval]; rw [show a.tmps.getD 4 undef = _ from p4]; rfl) (hK _ _ (Below.refl _ _) rfl))
              | 1, hop =>
                obtain rfl := Option.some.inj hop
                have t0 : a.tmps.getD 72 undef = (.int .i64 (c : Nat)) := hdep 0 _ 72 rfl rfl ⟨⟨0, .data⟩, by simp, rfl, rfl⟩
                exact .plain rfl (wp_val (w' := wa) (v := (.bool false)) (by simp only [execOp, Act.eval]; rw [show a.tmps.getD 72 undef = _ from t0]; simp only [Sem.run_bind, eg_gt, bi_gt, d1, Result.andThen_ok, Sem.run_pure]) (hK _ _ (Below.refl _ _) rfl))
              | 2, hop =>
                obtain rfl := Option.some.inj hop
                have t1 : a.tmps.getD 73 undef = (.bool false) := hdep 1 _ 73 rfl rfl ⟨⟨1, .data⟩, by simp, rfl, rfl⟩
                exact .plain rfl (wp_val (w' := wa) (v := (.bool false)) (by simp only [execOp, Act.eval]; rw [show a.tmps.getD 73 undef = _ from t1]; rfl) (hK _ _ (Below.refl _ _) rfl))
              | 3, hop =>
                obtain rfl := Option.some.inj hop
                have gg : a.tmps.getD 74 undef = (.bool false) := hdep 2 _ 74 rfl rfl ⟨⟨2, .guard⟩, by simp, rfl, rfl⟩
                have p4 : a.tmps.getD 4 undef = (.int .i64 (c : Nat)) := hsl 4 rfl
                exact .want rfl rfl (by rw [hsz]; simp) gg (wp_val (w' := wa) (v := (.int .i64 (c : Nat))) (by simp only [execOp, Act.eval]; rw [show a.tmps.getD 4 undef = _ from p4]; rfl) (hK _ _ (Below.refl _ _) rfl))
              | 4, hop =>
                obtain rfl := Option.some.inj hop
                have gg : a.tmps.getD 74 undef = (.bool false) := hdep 2 _ 74 rfl rfl ⟨⟨2, .guard⟩, by simp, rfl, rfl⟩
                have t3 : a.tmps.getD 75 undef = (.int .i64 (c : Nat)) := hdep 3 _ 75 rfl rfl ⟨⟨3, .data⟩, by simp, rfl, rfl⟩
                exact .want rfl rfl (by rw [hsz]; simp) gg (wp_val (w' := wa) (v := (.bool false)) (by simp only [execOp, Act.eval]; rw [show a.tmps.getD 75 undef = _ from t3]; simp only [Sem.run_bind, eg_ge, bi_ge, d2, Result.andThen_ok, Sem.run_pure]) (hK _ _ (Below.refl _ _) rfl))
              | 5, hop =>
                obtain rfl := Option.some.inj hop
                have gg : a.tmps.getD 74 undef = (.bool false) := hdep 2 _ 74 rfl rfl ⟨⟨2, .guard⟩, by simp, rfl, rfl⟩
                have t4 : a.tmps.getD 76 undef = (.bool false) := hdep 4 _ 76 rfl rfl ⟨⟨4, .data⟩, by simp, rfl, rfl⟩
                exact .want rfl rfl (by rw [hsz]; simp) gg (wp_val (w' := wa) (v := (.bool false)) (by simp only [execOp, Act.eval]; rw [show a.tmps.getD 76 undef = _ from t4]; rfl) (hK _ _ (Below.refl _ _) rfl))
              | 6, hop =>
                obtain rfl := Option.some.inj hop
                have gg : a.tmps.getD 77 undef = (.bool false) := hdep 5 _ 77 rfl rfl ⟨⟨5, .guard⟩, by simp, rfl, rfl⟩
                exact .skip rfl rfl (by rw [hsz]; simp) gg (hK _ _ (Below.refl _ _) rfl)
              | 7, hop =>
                obtain rfl := Option.some.inj hop
                have gg : a.tmps.getD 77 undef = (.bool false) := hdep 5 _ 77 rfl rfl ⟨⟨5, .guard⟩, by simp, rfl, rfl⟩
                exact .skip rfl rfl (by rw [hsz]; simp) gg (hK _ _ (Below.refl _ _) rfl)
              | 8, hop =>
                obtain rfl := Option.some.inj hop
                have gg : a.tmps.getD 74 undef = (.bool false) := hdep 2 _ 74 rfl rfl ⟨⟨2, .guard⟩, by simp, rfl, rfl⟩
                have t5 : a.tmps.getD 77 undef = (.bool false) := hdep 5 _ 77 rfl rfl ⟨⟨5, .data⟩, by simp, rfl, rfl⟩
                have t7 : a.tmps.getD 79 undef = undef := hdep 7 _ 79 rfl rfl ⟨⟨7, .data⟩, by simp, rfl, rfl⟩
                exact .want rfl rfl (by rw [hsz]; simp) gg (wp_val (w' := wa) (v := (.bool false)) (by simp only [execOp, Act.eval]; rw [show a.tmps.getD 77 undef = _ from t5, show a.tmps.getD 79 undef = _ from t7]; rfl) (hK _ _ (Below.refl _ _) rfl))
              | 9, hop =>
                obtain rfl := Option.some.inj hop
                have t2 : a.tmps.getD 74 undef = (.bool false) := hdep 2 _ 74 rfl rfl ⟨⟨2, .data⟩, by simp, rfl, rfl⟩
                have t8 : a.tmps.getD 80 undef = (.bool false) := hdep 8 _ 80 rfl rfl ⟨⟨8, .data⟩, by simp, rfl, rfl⟩
                exact .plain rfl (wp_val (w' := wa) (v := (.bool false)) (by simp only [execOp, Act.eval]; rw [show a.tmps.getD 74 undef = _ from t2, show a.tmps.getD 80 undef = _ from t8]; rfl) (hK _ _ (Below.refl _ _) rfl))
              | 10, hop =>
                obtain rfl := Option.some.inj hop
                have t9 : a.tmps.getD 81 undef = (.bool false) := hdep 9 _ 81 rfl rfl ⟨⟨9, .data⟩, by simp, rfl, rfl⟩
                exact .plain rfl (wp_val (w' := wa) (v := (.bool false)) (by simp only [execOp, Act.eval]; rw [show a.tmps.getD 81 undef = _ from t9]; rfl) (hK _ _ (Below.refl _ _) rfl))
              | 11, hop =>
                obtain rfl := Option.some.inj hop
                have gg : a.tmps.getD 82 undef = (.bool false) := hdep 10 _ 82 rfl rfl ⟨⟨10, .guard⟩, by simp, rfl, rfl⟩
                have p4 : a.tmps.getD 4 undef = (.int .i64 (c : Nat)) := hsl 4 rfl
                exact .want rfl rfl (by rw [hsz]; simp) gg (wp_val (w' := wa) (v := (.int .i64 (c : Nat))) (by simp only [execOp, Act.eval]; rw [show a.tmps.getD 4 undef = _ from p4]; rfl) (hK _ _ (Below.refl _ _) rfl))
              | 12, hop =>
                obtain rfl := Option.some.inj hop
                have gg : a.tmps.getD 82 undef = (.bool false) := hdep 10 _ 82 rfl rfl ⟨⟨10, .guard⟩, by simp, rfl, rfl⟩
                have t11 : a.tmps.getD 83 undef = (.int .i64 (c : Nat)) := hdep 11 _ 83 rfl rfl ⟨⟨11, .data⟩, by simp, rfl, rfl⟩
                refine .want rfl rfl (by rw [hsz]; simp) gg (oper_any (J := fun r w' => (fun v w => BsA w v sg) r w' ∧ Below wa.heap.size wa w') 88 #[.tmp 83] _ rfl #[(.int .i64 (c : Nat))] (by simp only [List.map_toArray, List.map_cons, List.map_nil, Act.eval]; rw [show a.tmps.getD 83 undef = _ from t11]) (fun w => by kernel_rfl) ((hsg.out wa).mono fun e w' h => ⟨_, h.1, by rw [h.2, ← hsgc]; exact bc_at, by rw [h.2]; exact below_al _⟩) ?_)
                rintro r w' ⟨hr, hb⟩
                exact hK _ _ hb hr
              | 13, hop =>
                obtain rfl := Option.some.inj hop
                have gg : a.tmps.getD 82 undef = (.bool false) := hdep 10 _ 82 rfl rfl ⟨⟨10, .guard⟩, by simp, rfl, rfl⟩
                have t12 : (fun v w => BsA w v sg) (a.tmps.getD 84 undef) wa := hdep 12 _ 84 rfl rfl ⟨⟨12, .data⟩, by simp, rfl, rfl⟩
                exact .want rfl rfl (by rw [hsz]; simp) gg (wp_val (w' := wa) (v := (.string (st sg))) (by simp only [execOp, Act.eval]; simp only [Sem.run_bind, conv_b t12, Result.andThen_ok, Sem.run_pure]) (hK _ _ (Below.refl _ _) rfl))
              | 14, hop =>
                obtain rfl := Option.some.inj hop
                have gg : a.tmps.getD 82 undef = (.bool false) := hdep 10 _ 82 rfl rfl ⟨⟨10, .guard⟩, by simp, rfl, rfl⟩
                have p0 : a.tmps.getD 0 undef = (.slice (some ⟨b, o, none⟩) (N + 1) cap) := hsl 0 rfl
                exact .want rfl rfl (by rw [hsz]; simp) gg (wp_val (w' := wa) (v := (.slice (some ⟨b, o, none⟩) (N + 1) cap)) (by simp only [execOp, Act.eval]; rw [show a.tmps.getD 0 undef = _ from p0]; rfl) (hK _ _ (Below.refl _ _) rfl))
              | 15, hop =>
                obtain rfl := Option.some.inj hop
                have gg : a.tmps.getD 82 undef = (.bool false) := hdep 10 _ 82 rfl rfl ⟨⟨10, .guard⟩, by simp, rfl, rfl⟩
                have p5 : a.tmps.getD 5 undef = (.int .i64 3) := hsl 5 rfl
                exact .want rfl rfl (by rw [hsz]; simp) gg (wp_val (w' := wa) (v := (.int .i64 3)) (by simp only [execOp, Act.eval]; rw [show a.tmps.getD 5 undef = _ from p5]; rfl) (hK _ _ (Below.refl _ _) rfl))
              | 16, hop =>
                obtain rfl := Option.some.inj hop
                have gg : a.tmps.getD 82 undef = (.bool false) := hdep 10 _ 82 rfl rfl ⟨⟨10, .guard⟩, by simp, rfl, rfl⟩
                have t14 : a.tmps.getD 86 undef = (.slice (some ⟨b, o, none⟩) (N + 1) cap) := hdep 14 _ 86 rfl rfl ⟨⟨14, .data⟩, by simp, rfl, rfl⟩
                have t15 : a.tmps.getD 87 undef = (.int .i64 3) := hdep 15 _ 87 rfl rfl ⟨⟨15, .data⟩, by simp, rfl, rfl⟩
                exact .want rfl rfl (by rw [hsz]; simp) gg (wp_val (w' := wa) (v := (.slice (some ⟨b, o, none⟩) 3 cap)) (by simp only [execOp, Act.eval, Option.map_some, Option.map_none]; rw [show a.tmps.getD 86 undef = _ from t14, show a.tmps.getD 87 undef = _ from t15]; simp only [Sem.run_bind, sl_to (k := 3) (i := 3) rfl (show 3 ≤ cap by omega), Result.andThen_ok, Sem.run_pure]) (hK _ _ (Below.refl _ _) rfl))
              | 17, hop =>
                obtain rfl := Option.some.inj hop
                have gg : a.tmps.getD 82 undef = (.bool false) := hdep 10 _ 82 rfl rfl ⟨⟨10, .guard⟩, by simp, rfl, rfl⟩
                have t16 : a.tmps.getD 88 undef = (.slice (some ⟨b, o, none⟩) 3 cap) := hdep 16 _ 88 rfl rfl ⟨⟨16, .data⟩, by simp, rfl, rfl⟩
                exact .want rfl rfl (by rw [hsz]; simp) gg (wp_val (w' := wa) (v := (.string (st tl))) (by simp only [execOp, Act.eval]; rw [show a.tmps.getD 88 undef = _ from t16]; simp only [Sem.run_bind, hA2.out wa hwa, Result.andThen_ok, Sem.run_pure]) (hK _ _ (Below.refl _ _) rfl))
              | 18, hop =>
                obtain rfl := Option.some.inj hop
                have gg : a.tmps.getD 82 undef = (.bool false) := hdep 10 _ 82 rfl rfl ⟨⟨10, .guard⟩, by simp, rfl, rfl⟩
                have t13 : a.tmps.getD 85 undef = (.string (st sg)) := hdep 13 _ 85 rfl rfl ⟨⟨13, .data⟩, by simp, rfl, rfl⟩
                have t17 : a.tmps.getD 89 undef = (.string (st tl)) := hdep 17 _ 89 rfl rfl ⟨⟨17, .data⟩, by simp, rfl, rfl⟩
                exact .want rfl rfl (by rw [hsz]; simp) gg (wp_val (w' := wa) (v := (.bool (!decide (sg = tl)))) (by simp only [execOp, Act.eval]; rw [show a.tmps.getD 85 undef = _ from t13, show a.tmps.getD 89 undef = _ from t17]; simp only [Sem.run_bind, eg_s, str_ne, Result.andThen_ok, Sem.run_pure]) (hK _ _ (Below.refl _ _) rfl))
              | 19, _ => exact absurd rfl hj
              | _ + 20, hop => exact absurd hop (by simp)
            · intro a wa hwa hdf hsz hsl hrr K hK
              have t10 : a.tmps.getD 82 undef = (.bool false) := hrr 10 _ 82 rfl (by decide) rfl
              have t18 : a.tmps.getD 90 undef = (.bool (!decide (sg = tl))) := hrr 18 _ 90 rfl (by decide) rfl
              refine .plain rfl (wp_val (w' := wa) (v := (.bool (!decide (sg = tl)))) (by simp only [execOp, Act.eval]; rw [show a.tmps.getD 82 undef = _ from t10, show a.tmps.getD 90 undef = _ from t18]; rfl) ?_)
              refine hK _ wa ?_
              have hact := act_puts hdf hsz hsl
              clear hrr hsl hdf hsz hK t10 t18
              simp only [List.filterMap_cons, List.filterMap_nil, List.foldl_cons, List.foldl_nil] at hact
              rw [hact]
              generalize a.tmps.getD 72 undef = y72
              generalize a.tmps.getD 73 undef = y73
              generalize a.tmps.getD 74 undef = y74
              generalize a.tmps.getD 75 undef = y75
              generalize a.tmps.getD 76 undef = y76
              generalize a.tmps.getD 77 undef = y77
              generalize a.tmps.getD 78 undef = y78
              generalize a.tmps.getD 79 undef = y79
              generalize a.tmps.getD 80 undef = y80
              generalize a.tmps.getD 81 undef = y81
              generalize a.tmps.getD 82 undef = y82
              generalize a.tmps.getD 83 undef = y83
              generalize a.tmps.getD 84 undef = y84
              generalize a.tmps.getD 85 undef = y85
              generalize a.tmps.getD 86 undef = y86
              generalize a.tmps.getD 87 undef = y87
              generalize a.tmps.getD 88 undef = y88
              generalize a.tmps.getD 89 undef = y89
              generalize a.tmps.getD 90 undef = y90
              clear hact
              simp only [Act.put, List.setIfInBounds_toArray, List.set_cons_succ, List.set_cons_zero]
              have hf2 := hide1 (hfin.out wa hwa)
              clear hfin hsg hA2 hwa
              by_cases hq : sg = tl
              · have hd : (!decide (sg = tl)) = false := by rw [decide_eq_true hq]; rfl
                rw [if_pos hq, if_pos hq] at hf2
                rw [hd]
                clear hd hq
                go_wp2
                go_ret2
                exact hf2.out
              · have hd : (!decide (sg = tl)) = true := by rw [decide_eq_false hq]; rfl
                rw [if_neg hq, if_neg hq] at hf2
                rw [hd]
                clear hd hq
                go_wp2
                go_ret2
                exact hf2.out
set_option maxHeartbeats 16000000 in
set_option maxRecDepth 100000 in
theorem first_4 {w : World} {sa : Option Addr} {cap : Nat} {x : UInt8} {m : List UInt8} (h : BsA w (.slice sa (m.length + 1) cap) (x :: m)) (hcap : m.length + 1 ≤ cap) (h1 : 240 ≤ x.toNat) (hs : 4 ≤ m.length + 1) : Calls Tryz.prog 86 #[.slice sa (m.length + 1) cap] w (AnF w (fgo 4 (x.toNat - 240) (x :: m))) := by
  have hall := h
  obtain ⟨_, _, e, h⟩ := h
  cases e
  obtain ⟨b, o, rfl, hb, hc⟩ := h.resolve_left (by simp)
  have c0 : w.cell? ⟨b, o, none⟩ = some (.int .u8 (x.toNat : Nat)) := hc 0 x rfl
  have hx := x.toNat_lt
  have hR : Hid (fgo 4 (x.toNat - 240) (x :: m) = match fcl (x.toNat - 240) 3 m with
    | none => (0, 0)
    | some c => fend 4 c (x :: m)) := hide1 (by unfold fgo; rw [if_neg (by simp only [List.length_cons]; omega)]; rfl)
  generalize fgo 4 (x.toNat - 240) (x :: m) = R at *
  obtain ⟨N, hN⟩ : ∃ N, Hid (N = m.length) := ⟨_, hide1 rfl⟩
  rw [← hN.out] at hall hs hcap ⊢
  replace hall := hide1 hall
  replace hc := hide1 hc
  go_enter Tryz.func86, Tryz.ntmps86
  go_wp2_with fail
  go_loopw [4, 6] (fun s4 s6 wr => ∃ c i : Nat, s4 = .int .i64 (c : Nat) ∧ s6 = .int .i64 (i : Nat) ∧ ((i = 1 ∧ c < 32) ∨ (i = 2 ∧ c < 2048) ∨ (i = 3 ∧ c < 131072) ∨ (i = 4 ∧ c < 8388608)) ∧ wr = w ∧ Hid (fcl c (4 - i) (m.drop (i - 1)) = fcl (x.toNat - 240) 3 m)) (fun _ s6 _ => 4 - (intOf s6).toNat)
  case atStart => exact ⟨(x.toNat - 240), 1, by first | rfl | (congr 1; omega), rfl, by omega, rfl, hide1 rfl⟩
  case round =>
    obtain ⟨c, i, rfl, rfl, hci, rfl, hme⟩ := hrel
    by_cases hlt : i < 4
    · obtain ⟨y, hy⟩ : ∃ y, m[i - 1]? = some y := ⟨_, List.getElem?_eq_getElem (by have := hN.out; omega)⟩
      have hy2 := y.toNat_lt
      have ci : wr.cell? ⟨b, o + i, none⟩ = some (.int .u8 (y.toNat : Nat)) := hc.out i y (by
        rw [show i = (i - 1) + 1 by omega, List.getElem?_cons_succ]; exact hy)
      have hst := fcl_at (c := c) (k := 4 - i - 1) hy
      rw [show 4 - i - 1 + 1 = 4 - i by omega, hme.out, show i - 1 + 1 = i by omega] at hst
      have hi1 : 1 ≤ i := by omega
      have hcm : c < 8388608 := by omega
      by_cases hbad : y.toNat < 128
      · have hfin : Hid (AnF wr R (.returned (.tuple #[.int .i64 0, .int .i64 0])) wr) := hide1 ⟨by rw [hR.out, hst, if_pos (.inl hbad)]; rfl, Below.refl _ _⟩
        clear hst hme hR hy hci hcm
        go_wp2
        go_ret2
        exact hfin.out
      · by_cases hbad2 : 191 < y.toNat
        · have hfin : Hid (AnF wr R (.returned (.tuple #[.int .i64 0, .int .i64 0])) wr) := hide1 ⟨by rw [hR.out, hst, if_pos (.inr hbad2)]; rfl, Below.refl _ _⟩
          clear hst hme hR hy hci hcm
          go_wp2
          go_ret2
          exact hfin.out
        · rw [if_neg (by omega)] at hst
          replace hst := hide1 hst
          replace hci := hide1 hci
          clear hme hy
          go_wp2
          go_roundw
          case rel => exact ⟨64 * c + y.toNat - 128, i + 1, by congr 1; omega, rfl, by have := hci.out; omega, by first | rfl | trivial, by
            refine hide1 ?_
            rw [hst.out]
            congr 1⟩
          case measure => simp [intOf]; omega
    · have hi : i = 4 := by omega
      subst hi
      have hme2 : fcl (x.toNat - 240) 3 m = some c := by rw [← hme.out]; rfl
      have hR2 : Hid (R = fend 4 c (x :: m)) := hide1 (by rw [hR.out, hme2])
      have hcm : c < 8388608 := by omega
      clear hme hme2 hR hci hlt hc hs 
      by_cases hbig : 1114111 < c
      · have d1 : decide ((c : Int) > 1114111) = true := decide_eq_true (by omega)
        have hfin : Hid (∀ q, AnF wr R (.returned (.tuple #[.int .i64 0, .int .i64 0])) (wr.drewN q)) := hide1 fun q => ⟨by rw [hR2.out]; unfold fend; rw [if_pos (.inl (.inl hbig))]; rfl, below_drewNv (Below.refl _ _) q⟩
        clear hR2 hbig hcm hall
        go_wp2_with fail
        go_quiet (fail)
        go_wp2
        go_ret2
        exact hfin.out _
      · have d1 : decide ((c : Int) > 1114111) = false := decide_eq_false (by omega)
        by_cases hsur : 55296 ≤ c ∧ c ≤ 57343
        · have d2 : decide ((c : Int) ≥ 55296) = true := decide_eq_true (by omega)
          have d3 : decide ((c : Int) ≤ 57343) = true := decide_eq_true (by omega)
          have hfin : Hid (∀ q, AnF wr R (.returned (.tuple #[.int .i64 0, .int .i64 0])) (wr.drewN q)) := hide1 fun q => ⟨by rw [hR2.out]; unfold fend; rw [if_pos (.inl (.inr hsur))]; rfl, below_drewNv (Below.refl _ _) q⟩
          clear hR2 hbig hsur hcm hall
          go_wp2_with fail
          go_quiet (fail)
          go_wp2
          go_ret2
          exact hfin.out _
        · have hsg := hide1 (fun wa : World => rsign_d (c := c) (by omega) (w := wa))
          have hA2 := hide1 (fun (wa : World) (hb : Below wr.heap.size wr wa) => conv_b ((hall.out.bl hb).take (k := 4) (by simp only [List.length_cons]; have := hN.out; omega) cap))
          have hnd : ¬ bdc c := fun h => h.elim hbig hsur
          have hfin : Hid (∀ wa, Below wr.heap.size wr wa → AnF wr R (.returned (.tuple #[.int .i64 (if sgn c = (x :: m).take 4 then c else 0 : Nat), .int .i64 (if sgn c = (x :: m).take 4 then 4 else 0 : Nat)])) wa) := hide1 fun wa hb => ⟨by
            rw [hR2.out]; unfold fend
            by_cases hq : sgn c = (x :: m).take 4
            · rw [if_pos hq, if_pos hq, if_neg (fun h => h.elim hnd (fun h => h hq))]
            · rw [if_neg hq, if_neg hq, if_pos (.inr hq)], hb⟩
          generalize hsgc : sgn c = sg at *
          generalize (x :: m).take 4 = tl at *
          by_cases hs2 : 55296 ≤ c
          · have d2 : decide ((c : Int) ≥ 55296) = true := decide_eq_true (by omega)
            have d3 : decide ((c : Int) ≤ 57343) = false := decide_eq_false (by omega)
            clear hR2 hbig hsur hcm hall hnd hs2
            go_upto_region 22 with fail
            refine wp_flowG 19 _ _ (by kernel_rfl) (by kernel_rfl) (by kernel_rfl) rfl (fun j v w => if j = 12 then (fun v w => BsA w v sg) v w else v = ([(.int .i64 (c : Nat)), (.bool false), (.bool false), (.int .i64 (c : Nat)), (.bool true), (.bool true), (.int .i64 (c : Nat)), (.bool false), (.bool false), (.bool false), (.bool false), (.int .i64 (c : Nat)), undef, (.string (st sg)), (.slice (some ⟨b, o, none⟩) (N + 1) cap), (.int .i64 4), (.slice (some ⟨b, o, none⟩) 4 cap), (.string (st tl)), (.bool (!decide (sg = tl))), (.bool (!decide (sg = tl)))] : List Value).getD j undef) (fun j v w w' h hb => by
                  by_cases e12 : j = 12
                  · subst e12; exact BsA.bl (l := sg) h hb
                  · simp only [if_neg e12] at h ⊢; exact h
                  ) ?_ ?_
            · intro j op hop hj a wa hwa hsz hsl hdep K hK
              match j, hop with
              | 0, hop =>
                obtain rfl := Option.some.inj hop
                have p4 : a.tmps.getD 4 undef = (.int .i64 (c : Nat)) := hsl 4 rfl
                exact .plain rfl (wp_val (w' := wa) (v := (.int .i64 (c : Nat))) (by simp only [execOp, Act.eval]; rw [show a.tmps.getD 4 undef = _ from p4]; rfl) (hK _ _ (Below.refl _ _) rfl))
              | 1, hop =>
                obtain rfl := Option.some.inj hop
                have t0 : a.tmps.getD 72 undef = (.int .i64 (c : Nat)) := hdep 0 _ 72 rfl rfl ⟨⟨0, .data⟩, by simp, rfl, rfl⟩
                exact .plain rfl (wp_val (w' := wa) (v := (.bool false)) (by simp only [execOp, Act.eval]; rw [show a.tmps.getD 72 undef = _ from t0]; simp only [Sem.run_bind, eg_gt, bi_gt, d1, Result.andThen_ok, Sem.run_pure]) (hK _ _ (Below.refl _ _) rfl))
              | 2, hop =>
                obtain rfl := Option.some.inj hop
                have t1 : a.tmps.getD 73 undef = (.bool false) := hdep 1 _ 73 rfl rfl ⟨⟨1, .data⟩, by simp, rfl, rfl⟩
                exact .plain rfl (wp_val (w' := wa) (v := (.bool false)) (by simp only [execOp, Act.eval]; rw [show a.tmps.getD 73 undef = _ from t1]; rfl) (hK _ _ (Below.refl _ _) rfl))
              | 3, hop =>
                obtain rfl := Option.some.inj hop
                have gg : a.tmps.getD 74 undef = (.bool false) := hdep 2 _ 74 rfl rfl ⟨⟨2, .guard⟩, by simp, rfl, rfl⟩
                have p4 : a.tmps.getD 4 undef = (.int .i64 (c : Nat)) := hsl 4 rfl
                exact .want rfl rfl (by rw [hsz]; simp) gg (wp_val (w' := wa) (v := (.int .i64 (c : Nat))) (by simp only [execOp, Act.eval]; rw [show a.tmps.getD 4 undef = _ from p4]; rfl) (hK _ _ (Below.refl _ _) rfl))
              | 4, hop =>
                obtain rfl := Option.some.inj hop
                have gg : a.tmps.getD 74 undef = (.bool false) := hdep 2 _ 74 rfl rfl ⟨⟨2, .guard⟩, by simp, rfl, rfl⟩
                have t3 : a.tmps.getD 75 undef = (.int .i64 (c : Nat)) := hdep 3 _ 75 rfl rfl ⟨⟨3, .data⟩, by simp, rfl, rfl⟩
                exact .want rfl rfl (by rw [hsz]; simp) gg (wp_val (w' := wa) (v := (.bool true)) (by simp only [execOp, Act.eval]; rw [show a.tmps.getD 75 undef = _ from t3]; simp only [Sem.run_bind, eg_ge, bi_ge, d2, Result.andThen_ok, Sem.run_pure]) (hK _ _ (Below.refl _ _) rfl))
              | 5, hop =>
                obtain rfl := Option.some.inj hop
                have gg : a.tmps.getD 74 undef = (.bool false) := hdep 2 _ 74 rfl rfl ⟨⟨2, .guard⟩, by simp, rfl, rfl⟩
                have t4 : a.tmps.getD 76 undef = (.bool true) := hdep 4 _ 76 rfl rfl ⟨⟨4, .data⟩, by simp, rfl, rfl⟩
                exact .want rfl rfl (by rw [hsz]; simp) gg (wp_val (w' := wa) (v := (.bool true)) (by simp only [execOp, Act.eval]; rw [show a.tmps.getD 76 undef = _ from t4]; rfl) (hK _ _ (Below.refl _ _) rfl))
              | 6, hop =>
                obtain rfl := Option.some.inj hop
                have gg : a.tmps.getD 77 undef = (.bool true) := hdep 5 _ 77 rfl rfl ⟨⟨5, .guard⟩, by simp, rfl, rfl⟩
                have p4 : a.tmps.getD 4 undef = (.int .i64 (c : Nat)) := hsl 4 rfl
                exact .want rfl rfl (by rw [hsz]; simp) gg (wp_val (w' := wa) (v := (.int .i64 (c : Nat))) (by simp only [execOp, Act.eval]; rw [show a.tmps.getD 4 undef = _ from p4]; rfl) (hK _ _ (Below.refl _ _) rfl))
              | 7, hop =>
                obtain rfl := Option.some.inj hop
                have gg : a.tmps.getD 77 undef = (.bool true) := hdep 5 _ 77 rfl rfl ⟨⟨5, .guard⟩, by simp, rfl, rfl⟩
                have t6 : a.tmps.getD 78 undef = (.int .i64 (c : Nat)) := hdep 6 _ 78 rfl rfl ⟨⟨6, .data⟩, by simp, rfl, rfl⟩
                exact .want rfl rfl (by rw [hsz]; simp) gg (wp_val (w' := wa) (v := (.bool false)) (by simp only [execOp, Act.eval]; rw [show a.tmps.getD 78 undef = _ from t6]; simp only [Sem.run_bind, eg_le, bi_le, d3, Result.andThen_ok, Sem.run_pure]) (hK _ _ (Below.refl _ _) rfl))
              | 8, hop =>
                obtain rfl := Option.some.inj hop
                have gg : a.tmps.getD 74 undef = (.bool false) := hdep 2 _ 74 rfl rfl ⟨⟨2, .guard⟩, by simp, rfl, rfl⟩
                have t5 : a.tmps.getD 77 undef = (.bool true) := hdep 5 _ 77 rfl rfl ⟨⟨5, .data⟩, by simp, rfl, rfl⟩
                have t7 : a.tmps.getD 79 undef = (.bool false) := hdep 7 _ 79 rfl rfl ⟨⟨7, .data⟩, by simp, rfl, rfl⟩
                exact .want rfl rfl (by rw [hsz]; simp) gg (wp_val (w' := wa) (v := (.bool false)) (by simp only [execOp, Act.eval]; rw [show a.tmps.getD 77 undef = _ from t5, show a.tmps.getD 79 undef = _ from t7]; rfl) (hK _ _ (Below.refl _ _) rfl))
              | 9, hop =>
                obtain rfl := Option.some.inj hop
                have t2 : a.tmps.getD 74 undef = (.bool false) := hdep 2 _ 74 rfl rfl ⟨⟨2, .data⟩, by simp, rfl, rfl⟩
                have t8 : a.tmps.getD 80 undef = (.bool false) := hdep 8 _ 80 rfl rfl ⟨⟨8, .data⟩, by simp, rfl, rfl⟩
                exact .plain rfl (wp_val (w' := wa) (v := (.bool false)) (by simp only [execOp, Act.eval]; rw [show a.tmps.getD 74 undef = _ from t2, show a.tmps.getD 80 undef = _ from t8]; rfl) (hK _ _ (Below.refl _ _) rfl))
              | 10, hop =>
                obtain rfl := Option.some.inj hop
                have t9 : a.tmps.getD 81 undef = (.bool false) := hdep 9 _ 81 rfl rfl ⟨⟨9, .data⟩, by simp, rfl, rfl⟩
                exact .plain rfl (wp_val (w' := wa) (v := (.bool false)) (by simp only [execOp, Act.eval]; rw [show a.tmps.getD 81 undef = _ from t9]; rfl) (hK _ _ (Below.refl _ _) rfl))
              | 11, hop =>
                obtain rfl := Option.some.inj hop
                have gg : a.tmps.getD 82 undef = (.bool false) := hdep 10 _ 82 rfl rfl ⟨⟨10, .guard⟩, by simp, rfl, rfl⟩
                have p4 : a.tmps.getD 4 undef = (.int .i64 (c : Nat)) := hsl 4 rfl
                exact .want rfl rfl (by rw [hsz]; simp) gg (wp_val (w' := wa) (v := (.int .i64 (c : Nat))) (by simp only [execOp, Act.eval]; rw [show a.tmps.getD 4 undef = _ from p4]; rfl) (hK _ _ (Below.refl _ _) rfl))
              | 12, hop =>
                obtain rfl := Option.some.inj hop
                have gg : a.tmps.getD 82 undef = (.bool false) := hdep 10 _ 82 rfl rfl ⟨⟨10, .guard⟩, by simp, rfl, rfl⟩
                have t11 : a.tmps.getD 83 undef = (.int .i64 (c : Nat)) := hdep 11 _ 83 rfl rfl ⟨⟨11, .data⟩, by simp, rfl, rfl⟩
                refine .want rfl rfl (by rw [hsz]; simp) gg (oper_any (J := fun r w' => (fun v w => BsA w v sg) r w' ∧ Below wa.heap.size wa w') 88 #[.tmp 83] _ rfl #[(.int .i64 (c : Nat))] (by simp only [List.map_toArray, List.map_cons, List.map_nil, Act.eval]; rw [show a.tmps.getD 83 undef = _ from t11]) (fun w => by kernel_rfl) ((hsg.out wa).mono fun e w' h => ⟨_, h.1, by rw [h.2, ← hsgc]; exact bc_at, by rw [h.2]; exact below_al _⟩) ?_)
                rintro r w' ⟨hr, hb⟩
                exact hK _ _ hb hr
              | 13, hop =>
                obtain rfl := Option.some.inj hop
                have gg : a.tmps.getD 82 undef = (.bool false) := hdep 10 _ 82 rfl rfl ⟨⟨10, .guard⟩, by simp, rfl, rfl⟩
                have t12 : (fun v w => BsA w v sg) (a.tmps.getD 84 undef) wa := hdep 12 _ 84 rfl rfl ⟨⟨12, .data⟩, by simp, rfl, rfl⟩
                exact .want rfl rfl (by rw [hsz]; simp) gg (wp_val (w' := wa) (v := (.string (st sg))) (by simp only [execOp, Act.eval]; simp only [Sem.run_bind, conv_b t12, Result.andThen_ok, Sem.run_pure]) (hK _ _ (Below.refl _ _) rfl))
              | 14, hop =>
                obtain rfl := Option.some.inj hop
                have gg : a.tmps.getD 82 undef = (.bool false) := hdep 10 _ 82 rfl rfl ⟨⟨10, .guard⟩, by simp, rfl, rfl⟩
                have p0 : a.tmps.getD 0 undef = (.slice (some ⟨b, o, none⟩) (N + 1) cap) := hsl 0 rfl
                exact .want rfl rfl (by rw [hsz]; simp) gg (wp_val (w' := wa) (v := (.slice (some ⟨b, o, none⟩) (N + 1) cap)) (by simp only [execOp, Act.eval]; rw [show a.tmps.getD 0 undef = _ from p0]; rfl) (hK _ _ (Below.refl _ _) rfl))
              | 15, hop =>
                obtain rfl := Option.some.inj hop
                have gg : a.tmps.getD 82 undef = (.bool false) := hdep 10 _ 82 rfl rfl ⟨⟨10, .guard⟩, by simp, rfl, rfl⟩
                have p5 : a.tmps.getD 5 undef = (.int .i64 4) := hsl 5 rfl
                exact .want rfl rfl (by rw [hsz]; simp) gg (wp_val (w' := wa) (v := (.int .i64 4)) (by simp only [execOp, Act.eval]; rw [show a.tmps.getD 5 undef = _ from p5]; rfl) (hK _ _ (Below.refl _ _) rfl))
              | 16, hop =>
                obtain rfl := Option.some.inj hop
                have gg : a.tmps.getD 82 undef = (.bool false) := hdep 10 _ 82 rfl rfl ⟨⟨10, .guard⟩, by simp, rfl, rfl⟩
                have t14 : a.tmps.getD 86 undef = (.slice (some ⟨b, o, none⟩) (N + 1) cap) := hdep 14 _ 86 rfl rfl ⟨⟨14, .data⟩, by simp, rfl, rfl⟩
                have t15 : a.tmps.getD 87 undef = (.int .i64 4) := hdep 15 _ 87 rfl rfl ⟨⟨15, .data⟩, by simp, rfl, rfl⟩
                exact .want rfl rfl (by rw [hsz]; simp) gg (wp_val (w' := wa) (v := (.slice (some ⟨b, o, none⟩) 4 cap)) (by simp only [execOp, Act.eval, Option.map_some, Option.map_none]; rw [show a.tmps.getD 86 undef = _ from t14, show a.tmps.getD 87 undef = _ from t15]; simp only [Sem.run_bind, sl_to (k := 4) (i := 4) rfl (show 4 ≤ cap by omega), Result.andThen_ok, Sem.run_pure]) (hK _ _ (Below.refl _ _) rfl))
              | 17, hop =>
                obtain rfl := Option.some.inj hop
                have gg : a.tmps.getD 82 undef = (.bool false) := hdep 10 _ 82 rfl rfl ⟨⟨10, .guard⟩, by simp, rfl, rfl⟩
                have t16 : a.tmps.getD 88 undef = (.slice (some ⟨b, o, none⟩) 4 cap) := hdep 16 _ 88 rfl rfl ⟨⟨16, .data⟩, by simp, rfl, rfl⟩
                exact .want rfl rfl (by rw [hsz]; simp) gg (wp_val (w' := wa) (v := (.string (st tl))) (by simp only [execOp, Act.eval]; rw [show a.tmps.getD 88 undef = _ from t16]; simp only [Sem.run_bind, hA2.out wa hwa, Result.andThen_ok, Sem.run_pure]) (hK _ _ (Below.refl _ _) rfl))
              | 18, hop =>
                obtain rfl := Option.some.inj hop
                have gg : a.tmps.getD 82 undef = (.bool false) := hdep 10 _ 82 rfl rfl ⟨⟨10, .guard⟩, by simp, rfl, rfl⟩
                have t13 : a.tmps.getD 85 undef = (.string (st sg)) := hdep 13 _ 85 rfl rfl ⟨⟨13, .data⟩, by simp, rfl, rfl⟩
                have t17 : a.tmps.getD 89 undef = (.string (st tl)) := hdep 17 _ 89 rfl rfl ⟨⟨17, .data⟩, by simp, rfl, rfl⟩
                exact .want rfl rfl (by rw [hsz]; simp) gg (wp_val (w' := wa) (v := (.bool (!decide (sg = tl)))) (by simp only [execOp, Act.eval]; rw [show a.tmps.getD 85 undef = _ from t13, show a.tmps.getD 89 undef = _ from t17]; simp only [Sem.run_bind, eg_s, str_ne, Result.andThen_ok, Sem.run_pure]) (hK _ _ (Below.refl _ _) rfl))
              | 19, _ => exact absurd rfl hj
              | _ + 20, hop => exact absurd hop (by simp)
            · intro a wa hwa hdf hsz hsl hrr K hK
              have t10 : a.tmps.getD 82 undef = (.bool false) := hrr 10 _ 82 rfl (by decide) rfl
              have t18 : a.tmps.getD 90 undef = (.bool (!decide (sg = tl))) := hrr 18 _ 90 rfl (by decide) rfl
              refine .plain rfl (wp_val (w' := wa) (v := (.bool (!decide (sg = tl)))) (by simp only [execOp, Act.eval]; rw [show a.tmps.getD 82 undef = _ from t10, show a.tmps.getD 90 undef = _ from t18]; rfl) ?_)
              refine hK _ wa ?_
              have hact := act_puts hdf hsz hsl
              clear hrr hsl hdf hsz hK t10 t18
              simp only [List.filterMap_cons, List.filterMap_nil, List.foldl_cons, List.foldl_nil] at hact
              rw [hact]
              generalize a.tmps.getD 72 undef = y72
              generalize a.tmps.getD 73 undef = y73
              generalize a.tmps.getD 74 undef = y74
              generalize a.tmps.getD 75 undef = y75
              generalize a.tmps.getD 76 undef = y76
              generalize a.tmps.getD 77 undef = y77
              generalize a.tmps.getD 78 undef = y78
              generalize a.tmps.getD 79 undef = y79
              generalize a.tmps.getD 80 undef = y80
              generalize a.tmps.getD 81 undef = y81
              generalize a.tmps.getD 82 undef = y82
              generalize a.tmps.getD 83 undef = y83
              generalize a.tmps.getD 84 undef = y84
              generalize a.tmps.getD 85 undef = y85
              generalize a.tmps.getD 86 undef = y86
              generalize a.tmps.getD 87 undef = y87
              generalize a.tmps.getD 88 undef = y88
              generalize a.tmps.getD 89 undef = y89
              generalize a.tmps.getD 90 undef = y90
              clear hact
              simp only [Act.put, List.setIfInBounds_toArray, List.set_cons_succ, List.set_cons_zero]
              have hf2 := hide1 (hfin.out wa hwa)
              clear hfin hsg hA2 hwa
              by_cases hq : sg = tl
              · have hd : (!decide (sg = tl)) = false := by rw [decide_eq_true hq]; rfl
                rw [if_pos hq, if_pos hq] at hf2
                rw [hd]
                clear hd hq
                go_wp2
                go_ret2
                exact hf2.out
              · have hd : (!decide (sg = tl)) = true := by rw [decide_eq_false hq]; rfl
                rw [if_neg hq, if_neg hq] at hf2
                rw [hd]
                clear hd hq
                go_wp2
                go_ret2
                exact hf2.out
          · have d2 : decide ((c : Int) ≥ 55296) = false := decide_eq_false (by omega)
            clear hR2 hbig hsur hcm hall hnd hs2
            go_upto_region 22 with fail
            refine wp_flowG 19 _ _ (by kernel_rfl) (by kernel_rfl) (by kernel_rfl) rfl (fun j v w => if j = 12 then (fun v w => BsA w v sg) v w else v = ([(.int .i64 (c : Nat)), (.bool false), (.bool false), (.int .i64 (c : Nat)), (.bool false), (.bool false), undef, undef, (.bool false), (.bool false), (.bool false), (.int .i64 (c : Nat)), undef, (.string (st sg)), (.slice (some ⟨b, o, none⟩) (N + 1) cap), (.int .i64 4), (.slice (some ⟨b, o, none⟩) 4 cap), (.string (st tl)), (.bool (!decide (sg = tl))), (.bool (!decide (sg = tl)))] : List Value).getD j undef) (fun j v w w' h hb => by
                  by_cases e12 : j = 12
                  · subst e12; exact BsA.bl (l := sg) h hb
                  · simp only [if_neg e12] at h ⊢; exact h
                  ) ?_ ?_
            · intro j op hop hj a wa hwa hsz hsl hdep K hK
              match j, hop with
              | 0, hop =>
                obtain rfl := Option.some.inj hop
                have p4 : a.tmps.getD 4 undef = (.int .i64 (c : Nat)) := hsl 4 rfl
                exact .plain rfl (wp_val (w' := wa) (v := (.int .i64 (c : Nat))) (by simp only [execOp, Act.eval]; rw [show a.tmps.getD 4 undef = _ from p4]; rfl) (hK _ _ (Below.refl _ _) rfl))
              | 1, hop =>
                obtain rfl := Option.some.inj hop
                have t0 : a.tmps.getD 72 undef = (.int .i64 (c : Nat)) := hdep 0 _ 72 rfl rfl ⟨⟨0, .data⟩, by simp, rfl, rfl⟩
                exact .plain rfl (wp_val (w' := wa) (v := (.bool false)) (by simp only [execOp, Act.eval]; rw [show a.tmps.getD 72 undef = _ from t0]; simp only [Sem.run_bind, eg_gt, bi_gt, d1, Result.andThen_ok, Sem.run_pure]) (hK _ _ (Below.refl _ _) rfl))
              | 2, hop =>
                obtain rfl := Option.some.inj hop
                have t1 : a.tmps.getD 73 undef = (.bool false) := hdep 1 _ 73 rfl rfl ⟨⟨1, .data⟩, by simp, rfl, rfl⟩
                exact .plain rfl (wp_val (w' := wa) (v := (.bool false)) (by simp only [execOp, Act.eval]; rw [show a.tmps.getD 73 undef = _ from t1]; rfl) (hK _ _ (Below.refl _ _) rfl))
              | 3, hop =>
                obtain rfl := Option.some.inj hop
                have gg : a.tmps.getD 74 undef = (.bool false) := hdep 2 _ 74 rfl rfl ⟨⟨2, .guard⟩, by simp, rfl, rfl⟩
                have p4 : a.tmps.getD 4 undef = (.int .i64 (c : Nat)) := hsl 4 rfl
                exact .want rfl rfl (by rw [hsz]; simp) gg (wp_val (w' := wa) (v := (.int .i64 (c : Nat))) (by simp only [execOp, Act.eval]; rw [show a.tmps.getD 4 undef = _ from p4]; rfl) (hK _ _ (Below.refl _ _) rfl))
              | 4, hop =>
                obtain rfl := Option.some.inj hop
                have gg : a.tmps.getD 74 undef = (.bool false) := hdep 2 _ 74 rfl rfl ⟨⟨2, .guard⟩, by simp, rfl, rfl⟩
                have t3 : a.tmps.getD 75 undef = (.int .i64 (c : Nat)) := hdep 3 _ 75 rfl rfl ⟨⟨3, .data⟩, by simp, rfl, rfl⟩
                exact .want rfl rfl (by rw [hsz]; simp) gg (wp_val (w' := wa) (v := (.bool false)) (by simp only [execOp, Act.eval]; rw [show a.tmps.getD 75 undef = _ from t3]; simp only [Sem.run_bind, eg_ge, bi_ge, d2, Result.andThen_ok, Sem.run_pure]) (hK _ _ (Below.refl _ _) rfl))
              | 5, hop =>
                obtain rfl := Option.some.inj hop
                have gg : a.tmps.getD 74 undef = (.bool false) := hdep 2 _ 74 rfl rfl ⟨⟨2, .guard⟩, by simp, rfl, rfl⟩
                have t4 : a.tmps.getD 76 undef = (.bool false) := hdep 4 _ 76 rfl rfl ⟨⟨4, .data⟩, by simp, rfl, rfl⟩
                exact .want rfl rfl (by rw [hsz]; simp) gg (wp_val (w' := wa) (v := (.bool false)) (by simp only [execOp, Act.eval]; rw [show a.tmps.getD 76 undef = _ from t4]; rfl) (hK _ _ (Below.refl _ _) rfl))
              | 6, hop =>
                obtain rfl := Option.some.inj hop
                have gg : a.tmps.getD 77 undef = (.bool false) := hdep 5 _ 77 rfl rfl ⟨⟨5, .guard⟩, by simp, rfl, rfl⟩
                exact .skip rfl rfl (by rw [hsz]; simp) gg (hK _ _ (Below.refl _ _) rfl)
              | 7, hop =>
                obtain rfl := Option.some.inj hop
                have gg : a.tmps.getD 77 undef = (.bool false) := hdep 5 _ 77 rfl rfl ⟨⟨5, .guard⟩, by simp, rfl, rfl⟩
                exact .skip rfl rfl (by rw [hsz]; simp) gg (hK _ _ (Below.refl _ _) rfl)
              | 8, hop =>
                obtain rfl := Option.some.inj hop
                have gg : a.tmps.getD 74 undef = (.bool false) := hdep 2 _ 74 rfl rfl ⟨⟨2, .guard⟩, by simp, rfl, rfl⟩
                have t5 : a.tmps.getD 77 undef = (.bool false) := hdep 5 _ 77 rfl rfl ⟨⟨5, .data⟩, by simp, rfl, rfl⟩
                have t7 : a.tmps.getD 79 undef = undef := hdep 7 _ 79 rfl rfl ⟨⟨7, .data⟩, by simp, rfl, rfl⟩
                exact .want rfl rfl (by rw [hsz]; simp) gg (wp_val (w' := wa) (v := (.bool false)) (by simp only [execOp, Act.eval]; rw [show a.tmps.getD 77 undef = _ from t5, show a.tmps.getD 79 undef = _ from t7]; rfl) (hK _ _ (Below.refl _ _) rfl))
              | 9, hop =>
                obtain rfl := Option.some.inj hop
                have t2 : a.tmps.getD 74 undef = (.bool false) := hdep 2 _ 74 rfl rfl ⟨⟨2, .data⟩, by simp, rfl, rfl⟩
                have t8 : a.tmps.getD 80 undef = (.bool false) := hdep 8 _ 80 rfl rfl ⟨⟨8, .data⟩, by simp, rfl, rfl⟩
                exact .plain rfl (wp_val (w' := wa) (v := (.bool false)) (by simp only [execOp, Act.eval]; rw [show a.tmps.getD 74 undef = _ from t2, show a.tmps.getD 80 undef = _ from t8]; rfl) (hK _ _ (Below.refl _ _) rfl))
              | 10, hop =>
                obtain rfl := Option.some.inj hop
                have t9 : a.tmps.getD 81 undef = (.bool false) := hdep 9 _ 81 rfl rfl ⟨⟨9, .data⟩, by simp, rfl, rfl⟩
                exact .plain rfl (wp_val (w' := wa) (v := (.bool false)) (by simp only [execOp, Act.eval]; rw [show a.tmps.getD 81 undef = _ from t9]; rfl) (hK _ _ (Below.refl _ _) rfl))
              | 11, hop =>
                obtain rfl := Option.some.inj hop
                have gg : a.tmps.getD 82 undef = (.bool false) := hdep 10 _ 82 rfl rfl ⟨⟨10, .guard⟩, by simp, rfl, rfl⟩
                have p4 : a.tmps.getD 4 undef = (.int .i64 (c : Nat)) := hsl 4 rfl
                exact .want rfl rfl (by rw [hsz]; simp) gg (wp_val (w' := wa) (v := (.int .i64 (c : Nat))) (by simp only [execOp, Act.eval]; rw [show a.tmps.getD 4 undef = _ from p4]; rfl) (hK _ _ (Below.refl _ _) rfl))
              | 12, hop =>
                obtain rfl := Option.some.inj hop
                have gg : a.tmps.getD 82 undef = (.bool false) := hdep 10 _ 82 rfl rfl ⟨⟨10, .guard⟩, by simp, rfl, rfl⟩
                have t11 : a.tmps.getD 83 undef = (.int .i64 (c : Nat)) := hdep 11 _ 83 rfl rfl ⟨⟨11, .data⟩, by simp, rfl, rfl⟩
                refine .want rfl rfl (by rw [hsz]; simp) gg (oper_any (J := fun r w' => (fun v w => BsA w v sg) r w' ∧ Below wa.heap.size wa w') 88 #[.tmp 83] _ rfl #[(.int .i64 (c : Nat))] (by simp only [List.map_toArray, List.map_cons, List.map_nil, Act.eval]; rw [show a.tmps.getD 83 undef = _ from t11]) (fun w => by kernel_rfl) ((hsg.out wa).mono fun e w' h => ⟨_, h.1, by rw [h.2, ← hsgc]; exact bc_at, by rw [h.2]; exact below_al _⟩) ?_)
                rintro r w' ⟨hr, hb⟩
                exact hK _ _ hb hr
              | 13, hop =>
                obtain rfl := Option.some.inj hop
                have gg : a.tmps.getD 82 undef = (.bool false) := hdep 10 _ 82 rfl rfl ⟨⟨10, .guard⟩, by simp, rfl, rfl⟩
                have t12 : (fun v w => BsA w v sg) (a.tmps.getD 84 undef) wa := hdep 12 _ 84 rfl rfl ⟨⟨12, .data⟩, by simp, rfl, rfl⟩
                exact .want rfl rfl (by rw [hsz]; simp) gg (wp_val (w' := wa) (v := (.string (st sg))) (by simp only [execOp, Act.eval]; simp only [Sem.run_bind, conv_b t12, Result.andThen_ok, Sem.run_pure]) (hK _ _ (Below.refl _ _) rfl))
              | 14, hop =>
                obtain rfl := Option.some.inj hop
                have gg : a.tmps.getD 82 undef = (.bool false) := hdep 10 _ 82 rfl rfl ⟨⟨10, .guard⟩, by simp, rfl, rfl⟩
                have p0 : a.tmps.getD 0 undef = (.slice (some ⟨b, o, none⟩) (N + 1) cap) := hsl 0 rfl
                exact .want rfl rfl (by rw [hsz]; simp) gg (wp_val (w' := wa) (v := (.slice (some ⟨b, o, none⟩) (N + 1) cap)) (by simp only [execOp, Act.eval]; rw [show a.tmps.getD 0 undef = _ from p0]; rfl) (hK _ _ (Below.refl _ _) rfl))
              | 15, hop =>
                obtain rfl := Option.some.inj hop
                have gg : a.tmps.getD 82 undef = (.bool false) := hdep 10 _ 82 rfl rfl ⟨⟨10, .guard⟩, by simp, rfl, rfl⟩
                have p5 : a.tmps.getD 5 undef = (.int .i64 4) := hsl 5 rfl
                exact .want rfl rfl (by rw [hsz]; simp) gg (wp_val (w' := wa) (v := (.int .i64 4)) (by simp only [execOp, Act.eval]; rw [show a.tmps.getD 5 undef = _ from p5]; rfl) (hK _ _ (Below.refl _ _) rfl))
              | 16, hop =>
                obtain rfl := Option.some.inj hop
                have gg : a.tmps.getD 82 undef = (.bool false) := hdep 10 _ 82 rfl rfl ⟨⟨10, .guard⟩, by simp, rfl, rfl⟩
                have t14 : a.tmps.getD 86 undef = (.slice (some ⟨b, o, none⟩) (N + 1) cap) := hdep 14 _ 86 rfl rfl ⟨⟨14, .data⟩, by simp, rfl, rfl⟩
                have t15 : a.tmps.getD 87 undef = (.int .i64 4) := hdep 15 _ 87 rfl rfl ⟨⟨15, .data⟩, by simp, rfl, rfl⟩
                exact .want rfl rfl (by rw [hsz]; simp) gg (wp_val (w' := wa) (v := (.slice (some ⟨b, o, none⟩) 4 cap)) (by simp only [execOp, Act.eval, Option.map_some, Option.map_none]; rw [show a.tmps.getD 86 undef = _ from t14, show a.tmps.getD 87 undef = _ from t15]; simp only [Sem.run_bind, sl_to (k := 4) (i := 4) rfl (show 4 ≤ cap by omega), Result.andThen_ok, Sem.run_pure]) (hK _ _ (Below.refl _ _) rfl))
              | 17, hop =>
                obtain rfl := Option.some.inj hop
                have gg : a.tmps.getD 82 undef = (.bool false) := hdep 10 _ 82 rfl rfl ⟨⟨10, .guard⟩, by simp, rfl, rfl⟩
                have t16 : a.tmps.getD 88 undef = (.slice (some ⟨b, o, none⟩) 4 cap) := hdep 16 _ 88 rfl rfl ⟨⟨16, .data⟩, by simp, rfl, rfl⟩
                exact .want rfl rfl (by rw [hsz]; simp) gg (wp_val (w' := wa) (v := (.string (st tl))) (by simp only [execOp, Act.eval]; rw [show a.tmps.getD 88 undef = _ from t16]; simp only [Sem.run_bind, hA2.out wa hwa, Result.andThen_ok, Sem.run_pure]) (hK _ _ (Below.refl _ _) rfl))
              | 18, hop =>
                obtain rfl := Option.some.inj hop
                have gg : a.tmps.getD 82 undef = (.bool false) := hdep 10 _ 82 rfl rfl ⟨⟨10, .guard⟩, by simp, rfl, rfl⟩
                have t13 : a.tmps.getD 85 undef = (.string (st sg)) := hdep 13 _ 85 rfl rfl ⟨⟨13, .data⟩, by simp, rfl, rfl⟩
                have t17 : a.tmps.getD 89 undef = (.string (st tl)) := hdep 17 _ 89 rfl rfl ⟨⟨17, .data⟩, by simp, rfl, rfl⟩
                exact .want rfl rfl (by rw [hsz]; simp) gg (wp_val (w' := wa) (v := (.bool (!decide (sg = tl)))) (by simp only [execOp, Act.eval]; rw [show a.tmps.getD 85 undef = _ from t13, show a.tmps.getD 89 undef = _ from t17]; simp only [Sem.run_bind, eg_s, str_ne, Result.andThen_ok, Sem.run_pure]) (hK _ _ (Below.refl _ _) rfl))
              | 19, _ => exact absurd rfl hj
              | _ + 20, hop => exact absurd hop (by simp)
            · intro a wa hwa hdf hsz hsl hrr K hK
              have t10 : a.tmps.getD 82 undef = (.bool false) := hrr 10 _ 82 rfl (by decide) rfl
              have t18 : a.tmps.getD 90 undef = (.bool (!decide (sg = tl))) := hrr 18 _ 90 rfl (by decide) rfl
              refine .plain rfl (wp_val (w' := wa) (v := (.bool (!decide (sg = tl)))) (by simp only [execOp, Act.eval]; rw [show a.tmps.getD 82 undef = _ from t10, show a.tmps.getD 90 undef = _ from t18]; rfl) ?_)
              refine hK _ wa ?_
              have hact := act_puts hdf hsz hsl
              clear hrr hsl hdf hsz hK t10 t18
              simp only [List.filterMap_cons, List.filterMap_nil, List.foldl_cons, List.foldl_nil] at hact
              rw [hact]
              generalize a.tmps.getD 72 undef = y72
              generalize a.tmps.getD 73 undef = y73
              generalize a.tmps.getD 74 undef = y74
              generalize a.tmps.getD 75 undef = y75
              generalize a.tmps.getD 76 undef = y76
              generalize a.tmps.getD 77 undef = y77
              generalize a.tmps.getD 78 undef = y78
              generalize a.tmps.getD 79 undef = y79
              generalize a.tmps.getD 80 undef = y80
              generalize a.tmps.getD 81 undef = y81
              generalize a.tmps.getD 82 undef = y82
              generalize a.tmps.getD 83 undef = y83
              generalize a.tmps.getD 84 undef = y84
              generalize a.tmps.getD 85 undef = y85
              generalize a.tmps.getD 86 undef = y86
              generalize a.tmps.getD 87 undef = y87
              generalize a.tmps.getD 88 undef = y88
              generalize a.tmps.getD 89 undef = y89
              generalize a.tmps.getD 90 undef = y90
              clear hact
              simp only [Act.put, List.setIfInBounds_toArray, List.set_cons_succ, List.set_cons_zero]
              have hf2 := hide1 (hfin.out wa hwa)
              clear hfin hsg hA2 hwa
              by_cases hq : sg = tl
              · have hd : (!decide (sg = tl)) = false := by rw [decide_eq_true hq]; rfl
                rw [if_pos hq, if_pos hq] at hf2
                rw [hd]
                clear hd hq
                go_wp2
                go_ret2
                exact hf2.out
              · have hd : (!decide (sg = tl)) = true := by rw [decide_eq_false hq]; rfl
                rw [if_neg hq, if_neg hq] at hf2
                rw [hd]
                clear hd hq
                go_wp2
                go_ret2
                exact hf2.out
end Go.Proofs.YtbemaloaobeblaaGreatDoor

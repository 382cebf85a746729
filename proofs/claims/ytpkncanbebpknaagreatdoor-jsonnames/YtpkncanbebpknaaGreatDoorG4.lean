/- JM, JN, JO, JT, JU, JW, JV, JX, JF3, JF5, JF6: laid together. -/
import Derived.Shelf.RegionOpen
import Derived.WalkKit
import Derived.ProofKit
import Derived.OpenShut
import Derived.ChangeOld
import Derived.Below
import Derived.Deep.Slices
import Derived.OrdersIn
import Derived.Test.YtpkncanbebpknaaGreatDoorG3
import Derived.Test.YtpkncanbebpknaaGreatDoorG2
namespace Go.Proofs.YtpkncanbebpknaaGreatDoor
open Go.RowKit

def exL (f : T → T → Bool) : List T → List T → Bool
  | a :: r, b :: q => f a b && exL f r q
  | _, _ => true
def exP (f : T → T → Bool) : List (List UInt8 × T) → List (List UInt8 × T) → Bool
  | a :: r, b :: q => decide (a.1 = b.1) && (f a.2 b.2 && exP f r q)
  | _, _ => true
def exB : Nat → T → T → Bool
  | 0, _, _ => false
  | h + 1, .mk k i s l p, .mk k' i' s' l' p' => decide (k = k') && (decide (i = i') && (decide (s = s') && (decide (l.length = l'.length) && (decide (p.length = p'.length) && (exL (exB h) l l' && exP (exB h) p p')))))
theorem exL_drop {f : T → T → Bool} {l l' : List T} {i : Nat} {a b : T} (ha : l[i]? = some a) (hb : l'[i]? = some b) : exL f (l.drop i) (l'.drop i) = (f a b && exL f (l.drop (i + 1)) (l'.drop (i + 1))) := by
  obtain ⟨h1, e1⟩ := List.getElem?_eq_some_iff.1 ha
  obtain ⟨h2, e2⟩ := List.getElem?_eq_some_iff.1 hb
  rw [List.drop_eq_getElem_cons h1, List.drop_eq_getElem_cons h2, e1, e2]; rfl
theorem exP_drop {f : T → T → Bool} {l l' : List (List UInt8 × T)} {i : Nat} {a b : List UInt8 × T} (ha : l[i]? = some a) (hb : l'[i]? = some b) : exP f (l.drop i) (l'.drop i) = (decide (a.1 = b.1) && (f a.2 b.2 && exP f (l.drop (i + 1)) (l'.drop (i + 1)))) := by
  obtain ⟨h1, e1⟩ := List.getElem?_eq_some_iff.1 ha
  obtain ⟨h2, e2⟩ := List.getElem?_eq_some_iff.1 hb
  rw [List.drop_eq_getElem_cons h1, List.drop_eq_getElem_cons h2, e1, e2]; rfl
theorem exL_eq {f : T → T → Bool} : ∀ {l l' : List T}, (∀ a ∈ l, ∀ b, f a b = true ↔ a = b) → l.length = l'.length → (exL f l l' = true ↔ l = l')
  | [], [], _, _ => by simp [exL]
  | [], _ :: _, _, h => by simp at h
  | _ :: _, [], _, h => by simp at h
  | a :: r, b :: q, hf, h => by
    rw [exL, Bool.and_eq_true, hf a (by simp), exL_eq (fun x hx => hf x (by simp [hx])) (by simpa using h)]
    simp
theorem exP_eq {f : T → T → Bool} : ∀ {l l' : List (List UInt8 × T)}, (∀ a ∈ l, ∀ b, f a.2 b = true ↔ a.2 = b) → l.length = l'.length → (exP f l l' = true ↔ l = l')
  | [], [], _, _ => by simp [exP]
  | [], _ :: _, _, h => by simp at h
  | _ :: _, [], _, h => by simp at h
  | a :: r, b :: q, hf, h => by
    rw [exP, Bool.and_eq_true, Bool.and_eq_true, decide_eq_true_eq, hf a (by simp), exP_eq (fun x hx => hf x (by simp [hx])) (by simpa using h)]
    obtain ⟨a1, a2⟩ := a
    obtain ⟨b1, b2⟩ := b
    simp [and_assoc]
theorem exB_eq : ∀ {h : Nat} {a b : T}, ht h a → (exB h a b = true ↔ a = b)
  | 0, _, _, h => h.elim
  | h + 1, .mk k i s l p, .mk k' i' s' l' p', ha => by
    unfold exB
    simp only [Bool.and_eq_true, decide_eq_true_eq, T.mk.injEq]
    constructor
    · rintro ⟨h1, h2, h3, h4, h5, h6, h7⟩
      exact ⟨h1, h2, h3, (exL_eq (fun a hm b => exB_eq (ha.1 a hm)) h4).1 h6, (exP_eq (fun a hm b => exB_eq (ha.2 a hm)) h5).1 h7⟩
    · rintro ⟨h1, h2, h3, rfl, rfl⟩
      exact ⟨h1, h2, h3, rfl, rfl, (exL_eq (fun a hm b => exB_eq (ha.1 a hm)) rfl).2 rfl, (exP_eq (fun a hm b => exB_eq (ha.2 a hm)) rfl).2 rfl⟩
theorem ix_oV {g o K cap k : Nat} (hk : k < K) (w : World) : (Instr.indexAt 25 (.slice (some ⟨g, o, none⟩) K cap) (.int .i64 ((k : Nat) : Int))).run Tryz.prog w = .ok (.pointer (some ⟨g, o + k * 5, none⟩)) w := by
  simp [Instr.indexAt, go_sem, hk]
theorem ix_oP {g o K cap k : Nat} (hk : k < K) (w : World) : (Instr.indexAt 26 (.slice (some ⟨g, o, none⟩) K cap) (.int .i64 ((k : Nat) : Int))).run Tryz.prog w = .ok (.pointer (some ⟨g, o + k * 6, none⟩)) w := by
  simp [Instr.indexAt, go_sem, hk]
theorem ld_mV {w : World} {b o : Nat} {x0 x1 x2 x3 x4 : Value} (hr : w.rangeAt b o [x0, x1, x2, x3, x4]) : (Instr.loadAt 28 (.pointer (some ⟨b, o, none⟩))).run Tryz.prog w = .ok (.agg #[x0, x1, x2, x3, x4]) w := by
  have hl := run_loadVar_mid (P := Tryz.prog) w b o 28 [x0, x1, x2, x3, x4] _ hr Tryz.underlying28 rfl (by kernel_rfl)
  simp only [Instr.loadAt, Instr.sureAddr, Sem.run_bind, Sem.run_pure, Result.andThen_ok, hl]
theorem ld_s0 {w : World} {b o : Nat} {v : Value} (h1 : w.cell? ⟨b, o, none⟩ = some v) : (Instr.loadAt 9 (.pointer (some ⟨b, o, none⟩))).run Tryz.prog w = .ok v w := by
  simp [Instr.loadAt, Instr.sureAddr, go_sem, h1]
theorem nq_s {s s' : List UInt8} (w : World) : (binOp .neq 9 (.string (st s)) (.string (st s'))).run Tryz.prog w = .ok (.bool (!decide (s = s'))) w := by
  have h := st_eq s s'
  simp [binOp, go_sem, Op.stringOp, ← h]
theorem eg_s {a b : Operand} {s s' : List UInt8} (w : World) : (eqGuard .neq 9 a b (.string (st s)) (.string (st s'))).run Tryz.prog w = .ok () w := by
  simp [eqGuard, go_sem]
/-- What the operations of '!Exact(a.List[i], b.List[i])' answer. -/
def R6 (q2 q3 i : Nat) (v v' : Value) (p1 p2 : Value) (C C' : Array Value) (r : Bool) : Nat → Value → World → Prop
  | 0, v, _ => v = .pointer (some ⟨q2, 3, none⟩)
  | 1, x, _ => x = v
  | 2, v, _ => v = .int .i64 (i : Nat)
  | 3, v, _ => v = p1
  | 4, v, _ => v = .agg C
  | 5, v, _ => v = .pointer (some ⟨q3, 3, none⟩)
  | 6, x, _ => x = v'
  | 7, v, _ => v = .int .i64 (i : Nat)
  | 8, v, _ => v = p2
  | 9, v, _ => v = .agg C'
  | 10, v, _ => v = .bool r
  | _, _, _ => True
theorem R6_mono {q2 q3 i : Nat} {v v' p1 p2 : Value} {C C' : Array Value} {r : Bool} (j : Nat) (x : Value) (w w' : World) (h : R6 q2 q3 i v v' p1 p2 C C' r j x w) (_ : Below w.heap.size w w') : R6 q2 q3 i v v' p1 p2 C C' r j x w' := by
  match j, h with
  | 0, h | 1, h | 2, h | 3, h | 4, h | 5, h | 6, h | 7, h | 8, h | 9, h | 10, h => exact h
  | _ + 11, h => trivial
theorem hgt_ht : ∀ {n : Nat} {t : T}, hgt n t → ht n t
  | 0, _, h => h
  | _ + 1, .mk _ _ _ _ _, h => ⟨fun t ht' => hgt_ht (h.2.2.1 t ht'), fun q hq => hgt_ht (h.2.2.2 q hq)⟩
/-- Exact answers so, so high. -/
def Eok (h : Nat) : Prop := ∀ {F G : Nat → Prop} {w : World} {t t' : T} {c c' : List Value}, hgt h t → VA F w t c → VA G w t' c' → Calls Tryz.prog 14 #[.agg c.toArray, .agg c'.toArray] w fun e w' => e = .returned (.bool (exB h t t')) ∧ Below w.heap.size w w'
set_option maxHeartbeats 4000000 in
set_option maxRecDepth 100000 in
theorem ex_s {h : Nat} (ih : Eok h) : Eok (h + 1) := by
  intro F G w t t' c c' hh hv hv'
  cases hv with
  | @mk k ki s l p sl sp cl cp r1 r2 e1 e2 hl hp1 hp2 =>
  cases hv' with
  | @mk k' ki' s' l' p' sl' sp' cl' cp' r1' r2' e1' e2' hl' hp1' hp2' =>
    obtain ⟨b1, b2, hh1, hh2⟩ := hh
    obtain ⟨sa, sc, rfl⟩ : ∃ va vc, sl = .slice va cl.length vc := by
      obtain ⟨_, ⟨a, cap, h1, h2⟩ | ⟨b, o, cap, cur, fz, h1, _⟩⟩ := r1
      · exact ⟨a, cap, by rw [h1, h2]; rfl⟩
      · exact ⟨_, cap, h1⟩
    obtain ⟨pa, pc, rfl⟩ : ∃ va vc, sp = .slice va cp.length vc := by
      obtain ⟨_, ⟨a, cap, h1, h2⟩ | ⟨b, o, cap, cur, fz, h1, _⟩⟩ := r2
      · exact ⟨a, cap, by rw [h1, h2]; rfl⟩
      · exact ⟨_, cap, h1⟩
    obtain ⟨sa', sc', rfl⟩ : ∃ va vc, sl' = .slice va cl'.length vc := by
      obtain ⟨_, ⟨a, cap, h1, h2⟩ | ⟨b, o, cap, cur, fz, h1, _⟩⟩ := r1'
      · exact ⟨a, cap, by rw [h1, h2]; rfl⟩
      · exact ⟨_, cap, h1⟩
    obtain ⟨pa', pc', rfl⟩ : ∃ va vc, sp' = .slice va cp'.length vc := by
      obtain ⟨_, ⟨a, cap, h1, h2⟩ | ⟨b, o, cap, cur, fz, h1, _⟩⟩ := r2'
      · exact ⟨a, cap, by rw [h1, h2]; rfl⟩
      · exact ⟨_, cap, h1⟩
    obtain ⟨wb, hwb⟩ : ∃ wb, wb = (w.alloc (.cells #[.int .i64 k, .int .i64 ki, .string (st s), .slice sa cl.length sc, .slice pa cp.length pc] 28)).alloc (.cells #[.int .i64 k', .int .i64 ki', .string (st s'), .slice sa' cl'.length sc', .slice pa' cp'.length pc'] 28) := ⟨_, rfl⟩
    have hb0 : Below w.heap.size w wb := by rw [hwb]; exact blw_al ((Below.refl _ _).alloc (Nat.le_refl _) _) (by simp) _
    have hbx : wb.heap[w.heap.size]? = some (.cells #[.int .i64 k, .int .i64 ki, .string (st s), .slice sa cl.length sc, .slice pa cp.length pc] 28 (0, 0)) := by
      rw [hwb]
      show ((w.heap.push _).push _)[w.heap.size]? = _
      rw [Array.getElem?_push, if_neg (by simp), Array.getElem?_push, if_pos rfl]
    have hby : wb.heap[w.heap.size + 1]? = some (.cells #[.int .i64 k', .int .i64 ki', .string (st s'), .slice sa' cl'.length sc', .slice pa' cp'.length pc'] 28 (0, 0)) := by
      rw [hwb]
      show ((w.heap.push _).push _)[w.heap.size + 1]? = _
      rw [Array.getElem?_push, if_pos (by simp)]
    have hsb : wb.heap.size = w.heap.size + 2 := by rw [hwb]; simp
    have hE : exB (h + 1) (.mk k ki s l p) (.mk k' ki' s' l' p') = (decide (k = k') && (decide (ki = ki') && (decide (s = s') && (decide (l.length = l'.length) && (decide (p.length = p'.length) && (exL (exB h) l l' && exP (exB h) p p')))))) := rfl
    generalize exB (h + 1) (.mk k ki s l p) (.mk k' ki' s' l' p') = E at *
    rw [← e1, ← e1', ← e2, ← e2'] at hE
    have hb1 : cl.length ≤ 1000000 := by omega
    have hb2 : cp.length ≤ 1000000 := by omega
    replace hb0 := hide1 hb0
    replace hbx := hide1 hbx
    replace hby := hide1 hby
    replace hsb := hide1 hsb
    replace e1 := hide1 e1
    replace e2 := hide1 e2
    replace e1' := hide1 e1'
    replace e2' := hide1 e2'
    clear b1 b2
    have hout : ∀ b, E = b → (Ending.returned (.bool b) : Ending) = .returned (.bool E) := fun b h => by rw [h]
    have hs1 := st_eq s s'
    by_cases q1 : k = k'
    case neg =>
      have hq : (k == k') = false := by simpa using q1
      have hf : Hid ((Ending.returned (.bool false) : Ending) = .returned (.bool E) ∧ Below w.heap.size w wb) := hide1 ⟨hout _ (by rw [hE]; simp [q1]), hb0.out⟩
      clear hE hout hs1
      subst hwb
      go_enter Tryz.func14, Tryz.ntmps14
      go_wp2
      go_ret
      exact hf.out
    subst q1
    by_cases q2 : ki = ki'
    case neg =>
      have hq : (ki == ki') = false := by simpa using q2
      clear hs1
      have hf : Hid ((Ending.returned (.bool false) : Ending) = .returned (.bool E) ∧ Below w.heap.size w wb) := hide1 ⟨hout _ (by rw [hE]; simp [q2]), hb0.out⟩
      clear hE hout
      subst hwb
      go_enter Tryz.func14, Tryz.ntmps14
      go_wp2
      go_ret
      exact hf.out
    subst q2
    by_cases q3 : s = s'
    case neg =>
      have hq : ((st s).toList == (st s').toList) = false := by rw [hs1]; exact decide_eq_false q3
      clear hs1
      have hf : Hid ((Ending.returned (.bool false) : Ending) = .returned (.bool E) ∧ Below w.heap.size w wb) := hide1 ⟨hout _ (by rw [hE]; simp [q3]), hb0.out⟩
      clear hE hout
      subst hwb
      go_enter Tryz.func14, Tryz.ntmps14
      go_wp2
      go_ret
      exact hf.out
    subst q3
    by_cases q4 : cl.length = cl'.length
    case neg =>
      have hq : ((cl.length : Int) != (cl'.length : Int)) = true := by simp; omega
      clear hs1
      have hf : Hid ((Ending.returned (.bool false) : Ending) = .returned (.bool E) ∧ Below w.heap.size w wb) := hide1 ⟨hout _ (by rw [hE]; simp [q4]), hb0.out⟩
      clear hE hout
      subst hwb
      go_enter Tryz.func14, Tryz.ntmps14
      go_wp2
      go_ret
      exact hf.out
    by_cases q5 : cp.length = cp'.length
    case neg =>
      have hq : ((cp.length : Int) != (cp'.length : Int)) = true := by simp; omega
      have hq4 : ((cl.length : Int) != (cl'.length : Int)) = false := by simp; omega
      replace q4 := hide1 q4
      clear hs1
      have hf : Hid ((Ending.returned (.bool false) : Ending) = .returned (.bool E) ∧ Below w.heap.size w wb) := hide1 ⟨hout _ (by rw [hE]; simp [q4.out, q5]), hb0.out⟩
      clear hE hout
      subst hwb
      go_enter Tryz.func14, Tryz.ntmps14
      go_wp2
      go_ret
      exact hf.out
    have hq4 : ((cl.length : Int) != (cl'.length : Int)) = false := by simp; omega
    have hq5 : ((cp.length : Int) != (cp'.length : Int)) = false := by simp; omega
    have hE2 : Hid (E = (exL (exB h) l l' && exP (exB h) p p')) := hide1 (by rw [hE]; simp [q4, q5])
    replace q4 := hide1 q4
    replace q5 := hide1 q5
    clear hE hs1
    replace hout := hide1 hout
    go_enter Tryz.func14, Tryz.ntmps14
    go_wp2_with fail
    rw [← hwb]
    go_loopw [5] (fun x wr => ∃ i : Nat, x = .int .i64 (i : Nat) ∧ i ≤ cl.length ∧ Hid (exL (exB h) (l.drop i) (l'.drop i) = exL (exB h) l l') ∧ Hid (Below wb.heap.size wb wr)) (fun x _ => cl.length - (intOf x).toNat)
    case atStart => exact ⟨0, rfl, by omega, hide1 rfl, hide1 (Below.refl _ _)⟩
    case round =>
      obtain ⟨i, rfl, hin, hme, hbw⟩ := hrel
      have hbr := (hbw.out.block w.heap.size (by have := hsb.out; omega)).trans hbx.out
      have hbs := (hbw.out.block (w.heap.size + 1) (by have := hsb.out; omega)).trans hby.out
      have c3 : wr.cell? ⟨w.heap.size, 3, none⟩ = some (.slice sa cl.length sc) := by simp only [World.cell?, hbr]; rfl
      have d3 : wr.cell? ⟨w.heap.size + 1, 3, none⟩ = some (.slice sa' cl'.length sc') := by simp only [World.cell?, hbs]; rfl
      have hB : Hid (Below w.heap.size w wr) := hide1 (hb0.out.trans (hbw.out.mono hb0.out.size))
      by_cases hlt : i < cl.length
      · have hlt' : i < cl'.length := by have := q4.out; omega
        obtain ⟨x, hx⟩ : ∃ x, cl[i]? = some x := ⟨_, List.getElem?_eq_getElem hlt⟩
        obtain ⟨x', hx'⟩ : ∃ x, cl'[i]? = some x := ⟨_, List.getElem?_eq_getElem hlt'⟩
        obtain ⟨u, hu⟩ : ∃ u, l[i]? = some u := ⟨_, List.getElem?_eq_getElem (by have := e1.out; omega)⟩
        obtain ⟨u', hu'⟩ : ∃ u, l'[i]? = some u := ⟨_, List.getElem?_eq_getElem (by have := e1'.out; omega)⟩
        have hxu := hl i u x hu hx
        have hxu' := hl' i u' x' hu' hx'
        obtain ⟨b, o, cap, hve, -, hbl, hr⟩ := r1.at hx
        obtain ⟨b', o', cap', hve', -, hbl', hr'⟩ := r1'.at hx'
        have hva : sa = some ⟨b, o, none⟩ := by cases hve; rfl
        have hva' : sa' = some ⟨b', o', none⟩ := by cases hve'; rfl
        subst hva hva'
        have hx5 := r1.1 x (List.mem_of_getElem? hx)
        have hx5' := r1'.1 x' (List.mem_of_getElem? hx')
        obtain ⟨x0, x1, x2, x3, x4, rfl⟩ : ∃ x0 x1 x2 x3 x4, x = [x0, x1, x2, x3, x4] := by
          match x, hx5 with
          | [x0, x1, x2, x3, x4], _ => exact ⟨x0, x1, x2, x3, x4, rfl⟩
        obtain ⟨z0, z1, z2, z3, z4, rfl⟩ : ∃ x0 x1 x2 x3 x4, x' = [x0, x1, x2, x3, x4] := by
          match x', hx5' with
          | [x0, x1, x2, x3, x4], _ => exact ⟨x0, x1, x2, x3, x4, rfl⟩
        have hms := exL_drop (f := exB h) hu hu'
        rw [hme.out] at hms
        replace hms := hide1 hms
        have hhu := hh1 u (List.mem_of_getElem? hu)
        replace hxu := hide1 hxu
        replace hxu' := hide1 hxu'
        replace hr := hide1 hr
        replace hr' := hide1 hr'
        replace hbr := hide1 hbr
        replace hbs := hide1 hbs
        clear hme hve hve' hx hx' hx5 hx5' hu hu'
        go_upto_region 6 with fail
        refine wp_flowG 11 _ _ (by kernel_rfl) (by kernel_rfl) (by kernel_rfl) rfl (R6 w.heap.size (w.heap.size + 1) i (.slice (some ⟨b, o, none⟩) cl.length sc) (.slice (some ⟨b', o', none⟩) cl'.length sc') (.pointer (some ⟨b, o + i * 5, none⟩)) (.pointer (some ⟨b', o' + i * 5, none⟩)) #[x0, x1, x2, x3, x4] #[z0, z1, z2, z3, z4] (exB h u u')) R6_mono ?_ ?_
        · intro j op hop hj a wa hwa hsz hsl hdep K hK
          have hBa : Below w.heap.size w wa := hB.out.trans (hwa.mono hB.out.size)
          have hwz := hB.out.size
          match j, hop with
          | 0, hop =>
            obtain rfl := Option.some.inj hop
            have t2 : a.tmps.getD 2 undef = .pointer (some ⟨w.heap.size, 0, none⟩) := hsl 2 rfl
            exact .plain rfl (wp_val (w' := wa) (by simp only [execOp, Act.eval]; rw [show a.tmps.getD 2 undef = _ from t2]; kernel_rfl) (hK _ _ (Below.refl _ _) rfl))
          | 1, hop =>
            obtain rfl := Option.some.inj hop
            have t := hdep 0 _ 51 rfl rfl ⟨⟨0, .data⟩, by simp, rfl, rfl⟩
            have hc := (hwa.cell (p := ⟨w.heap.size, 3, none⟩) (show w.heap.size < wr.heap.size from (Array.getElem?_eq_some_iff.1 hbr.out).1)).trans c3
            exact .plain rfl (wp_val (w' := wa) (by simp only [execOp, Act.eval]; rw [show a.tmps.getD 51 undef = _ from t]; simp only [Sem.run_bind, ld_sV hc, Result.andThen_ok, Sem.run_pure]) (hK _ _ (Below.refl _ _) rfl))
          | 2, hop =>
            obtain rfl := Option.some.inj hop
            have t := hsl 5 rfl
            exact .plain rfl (wp_val (w' := wa) (by simp only [execOp, Act.eval]; rw [show a.tmps.getD 5 undef = _ from t]; rfl) (hK _ _ (Below.refl _ _) rfl))
          | 3, hop =>
            obtain rfl := Option.some.inj hop
            have t1 := hdep 1 _ 52 rfl rfl ⟨⟨1, .data⟩, by simp, rfl, rfl⟩
            have t2 := hdep 2 _ 53 rfl rfl ⟨⟨2, .data⟩, by simp, rfl, rfl⟩
            exact .plain rfl (wp_val (w' := wa) (by simp only [execOp, Act.eval]; rw [show a.tmps.getD 52 undef = _ from t1, show a.tmps.getD 53 undef = _ from t2]; simp only [Sem.run_bind, ix_oV hlt, Result.andThen_ok, Sem.run_pure]) (hK _ _ (Below.refl _ _) rfl))
          | 4, hop =>
            obtain rfl := Option.some.inj hop
            have t1 := hdep 3 _ 54 rfl rfl ⟨⟨3, .data⟩, by simp, rfl, rfl⟩
            have hrr : wa.rangeAt b (o + i * 5) [x0, x1, x2, x3, x4] := fun q v hq => by
              rw [World.cell?_of_block (w := w) (hBa.block b hbl)]
              exact hr.out q v hq
            exact .plain rfl (wp_val (w' := wa) (by simp only [execOp, Act.eval]; rw [show a.tmps.getD 54 undef = _ from t1]; simp only [Sem.run_bind, ld_mV hrr, Result.andThen_ok, Sem.run_pure]) (hK _ _ (Below.refl _ _) rfl))
          | 5, hop =>
            obtain rfl := Option.some.inj hop
            have t2 : a.tmps.getD 3 undef = .pointer (some ⟨w.heap.size + 1, 0, none⟩) := hsl 3 rfl
            exact .plain rfl (wp_val (w' := wa) (by simp only [execOp, Act.eval]; rw [show a.tmps.getD 3 undef = _ from t2]; kernel_rfl) (hK _ _ (Below.refl _ _) rfl))
          | 6, hop =>
            obtain rfl := Option.some.inj hop
            have t := hdep 5 _ 56 rfl rfl ⟨⟨5, .data⟩, by simp, rfl, rfl⟩
            have hc := (hwa.cell (p := ⟨w.heap.size + 1, 3, none⟩) (show w.heap.size + 1 < wr.heap.size from (Array.getElem?_eq_some_iff.1 hbs.out).1)).trans d3
            exact .plain rfl (wp_val (w' := wa) (by simp only [execOp, Act.eval]; rw [show a.tmps.getD 56 undef = _ from t]; simp only [Sem.run_bind, ld_sV hc, Result.andThen_ok, Sem.run_pure]) (hK _ _ (Below.refl _ _) rfl))
          | 7, hop =>
            obtain rfl := Option.some.inj hop
            have t := hsl 5 rfl
            exact .plain rfl (wp_val (w' := wa) (by simp only [execOp, Act.eval]; rw [show a.tmps.getD 5 undef = _ from t]; rfl) (hK _ _ (Below.refl _ _) rfl))
          | 8, hop =>
            obtain rfl := Option.some.inj hop
            have t1 := hdep 6 _ 57 rfl rfl ⟨⟨6, .data⟩, by simp, rfl, rfl⟩
            have t2 := hdep 7 _ 58 rfl rfl ⟨⟨7, .data⟩, by simp, rfl, rfl⟩
            exact .plain rfl (wp_val (w' := wa) (by simp only [execOp, Act.eval]; rw [show a.tmps.getD 57 undef = _ from t1, show a.tmps.getD 58 undef = _ from t2]; simp only [Sem.run_bind, ix_oV hlt', Result.andThen_ok, Sem.run_pure]) (hK _ _ (Below.refl _ _) rfl))
          | 9, hop =>
            obtain rfl := Option.some.inj hop
            have t1 := hdep 8 _ 59 rfl rfl ⟨⟨8, .data⟩, by simp, rfl, rfl⟩
            have hrr : wa.rangeAt b' (o' + i * 5) [z0, z1, z2, z3, z4] := fun q v hq => by
              rw [World.cell?_of_block (w := w) (hBa.block b' hbl')]
              exact hr'.out q v hq
            exact .plain rfl (wp_val (w' := wa) (by simp only [execOp, Act.eval]; rw [show a.tmps.getD 59 undef = _ from t1]; simp only [Sem.run_bind, ld_mV hrr, Result.andThen_ok, Sem.run_pure]) (hK _ _ (Below.refl _ _) rfl))
          | 10, hop =>
            obtain rfl := Option.some.inj hop
            have t4 := hdep 4 _ 55 rfl rfl ⟨⟨4, .data⟩, by simp, rfl, rfl⟩
            have t9 := hdep 9 _ 60 rfl rfl ⟨⟨9, .data⟩, by simp, rfl, rfl⟩
            have hcal := ih hhu (hxu.out.frame (w' := wa) (G := F) (fun j _ hj => hBa.block j hj) (fun _ h _ => h)) (hxu'.out.frame (w' := wa) (G := G) (fun j _ hj => hBa.block j hj) (fun _ h _ => h))
            refine .plain rfl (oper_any (J := fun r w' => r = .bool (exB h u u') ∧ Below wa.heap.size wa w') 14 #[.tmp 55, .tmp 60] _ rfl #[.agg #[x0, x1, x2, x3, x4], .agg #[z0, z1, z2, z3, z4]] (by simp only [List.map_toArray, List.map_cons, List.map_nil, Act.eval]; rw [show a.tmps.getD 55 undef = _ from t4, show a.tmps.getD 60 undef = _ from t9]) (fun w => by kernel_rfl) (hcal.mono fun e w' h => ⟨_, h.1, rfl, h.2⟩) ?_)
            rintro r w' ⟨rfl, hb⟩
            exact hK _ _ hb rfl
          | 11, _ => exact absurd rfl hj
          | _ + 12, hop => exact absurd hop (by simp)
        · intro a wa hwa hdf hsz hsl hrr K hK
          have t10 := hrr 10 _ 61 rfl (by decide) rfl
          have hbw2 := hide1 (hbw.out.trans (hwa.mono hbw.out.size))
          refine .plain rfl (wp_val (w' := wa) (v := .bool (!exB h u u')) (by simp only [execOp, Act.eval]; rw [show a.tmps.getD 61 undef = _ from t10]; kernel_rfl) ?_)
          refine hK _ wa ?_
          have hact := act_puts hdf hsz hsl
          have hBf := hide1 (hB.out.trans (hwa.mono hB.out.size))
          clear hrr hsl hdf hsz hK t10 ih
          simp only [List.filterMap_cons, List.filterMap_nil, List.foldl_cons, List.foldl_nil] at hact
          rw [hact]
          generalize a.tmps.getD 51 undef = y51
          generalize a.tmps.getD 52 undef = y52
          generalize a.tmps.getD 53 undef = y53
          generalize a.tmps.getD 54 undef = y54
          generalize a.tmps.getD 55 undef = y55
          generalize a.tmps.getD 56 undef = y56
          generalize a.tmps.getD 57 undef = y57
          generalize a.tmps.getD 58 undef = y58
          generalize a.tmps.getD 59 undef = y59
          generalize a.tmps.getD 60 undef = y60
          generalize a.tmps.getD 61 undef = y61
          generalize a.tmps.getD 62 undef = y62
          clear hact a
          cases hex : exB h u u' with
          | true =>
            rw [hex, Bool.true_and] at hms
            refine (‹∀ (a : Act) (w : World), Code.wp Tryz.prog _ _ a w → _›) _ wa ?_
            simp only [Bool.not_true, Act.put, List.setIfInBounds_toArray, List.set_cons_succ, List.set_cons_zero]
            go_wp2
            go_roundw
            case rel => exact ⟨i + 1, rfl, by omega, hide1 hms.out.symm, hbw2⟩
            case measure => simp [intOf]; omega
          | false =>
            rw [hex, Bool.false_and] at hms
            refine (‹∀ (a : Act) (w : World), Code.wp Tryz.prog _ _ a w → _›) _ wa ?_
            have hf : Hid ((Ending.returned (.bool false) : Ending) = .returned (.bool E) ∧ Below w.heap.size w wa) := hide1 ⟨hout.out _ (by rw [hE2.out, hms.out]; rfl), hBf.out⟩
            simp only [Bool.not_false, Act.put, List.setIfInBounds_toArray, List.set_cons_succ, List.set_cons_zero]
            go_wp2
            go_ret
            exact hf.out
      · have hie : i = cl.length := by omega
        subst hie
        have hE3 : Hid (E = exP (exB h) p p') := hide1 (by
          have h3 : exL (exB h) l l' = true := by
            rw [← hme.out, List.drop_of_length_le (by have := e1.out; omega)]
            cases l'.drop cl.length <;> rfl
          rw [hE2.out, h3, Bool.true_and])
        clear hme hlt r1 r1' hh1
        go_wp2_with fail
        go_loopw [6] (fun x wr => ∃ i : Nat, x = .int .i64 (i : Nat) ∧ i ≤ cp.length ∧ Hid (exP (exB h) (p.drop i) (p'.drop i) = exP (exB h) p p') ∧ Hid (Below wb.heap.size wb wr)) (fun x _ => cp.length - (intOf x).toNat)
        case atStart => exact ⟨0, rfl, by omega, hide1 rfl, hbw⟩
        case round =>
          clear hbw hB c3 d3 hbr hbs hin
          obtain ⟨i, rfl, hin, hme, hbw⟩ := hrel
          have hbr := (hbw.out.block w.heap.size (by have := hsb.out; omega)).trans hbx.out
          have hbs := (hbw.out.block (w.heap.size + 1) (by have := hsb.out; omega)).trans hby.out
          have c4 : wr.cell? ⟨w.heap.size, 4, none⟩ = some (.slice pa cp.length pc) := by simp only [World.cell?, hbr]; rfl
          have d4 : wr.cell? ⟨w.heap.size + 1, 4, none⟩ = some (.slice pa' cp'.length pc') := by simp only [World.cell?, hbs]; rfl
          have hB : Hid (Below w.heap.size w wr) := hide1 (hb0.out.trans (hbw.out.mono hb0.out.size))
          by_cases hlt : i < cp.length
          · have hlt' : i < cp'.length := by have := q5.out; omega
            obtain ⟨x, hx⟩ : ∃ x, cp[i]? = some x := ⟨_, List.getElem?_eq_getElem hlt⟩
            obtain ⟨x', hx'⟩ : ∃ x, cp'[i]? = some x := ⟨_, List.getElem?_eq_getElem hlt'⟩
            obtain ⟨u, hu⟩ : ∃ u, p[i]? = some u := ⟨_, List.getElem?_eq_getElem (by have := e2.out; omega)⟩
            obtain ⟨u', hu'⟩ : ∃ u, p'[i]? = some u := ⟨_, List.getElem?_eq_getElem (by have := e2'.out; omega)⟩
            have hxn := hp1 i u x hu hx
            have hxn' := hp1' i u' x' hu' hx'
            have hxu := hp2 i u x hu hx
            have hxu' := hp2' i u' x' hu' hx'
            obtain ⟨b, o, cap, hve, -, hbl, hr⟩ := r2.at hx
            obtain ⟨b', o', cap', hve', -, hbl', hr'⟩ := r2'.at hx'
            have hva : pa = some ⟨b, o, none⟩ := by cases hve; rfl
            have hva' : pa' = some ⟨b', o', none⟩ := by cases hve'; rfl
            subst hva hva'
            obtain ⟨x0, x1, x2, x3, x4, x5, rfl⟩ := arr6 (r2.1 x (List.mem_of_getElem? hx))
            obtain ⟨z0, z1, z2, z3, z4, z5, rfl⟩ := arr6 (r2'.1 x' (List.mem_of_getElem? hx'))
            have hms := exP_drop (f := exB h) hu hu'
            rw [hme.out] at hms
            replace hms := hide1 hms
            have hhu := hh2 u (List.mem_of_getElem? hu)
            replace hxu := hide1 hxu
            replace hxu' := hide1 hxu'
            replace hr := hide1 hr
            replace hr' := hide1 hr'
            replace hbr := hide1 hbr
            replace hbs := hide1 hbs
            simp only [List.head?_cons, Option.some.injEq] at hxn hxn'
            subst hxn hxn'
            clear hme hve hve' hx hx' hu hu'
            go_upto_region 11 with fail
            by_cases hnm : u.1 = u'.1
            case neg =>
              refine wp_flowG 28 _ _ (by kernel_rfl) (by kernel_rfl) (by kernel_rfl) rfl (fun j v _ => v = ([(.pointer (some ⟨w.heap.size, 4, none⟩)), (.slice (some ⟨b, o, none⟩) cp.length pc), (.int .i64 (i : Nat)), (.pointer (some ⟨b, o + i * 6, none⟩)), (.pointer (some ⟨b, o + i * 6, none⟩)), (.string (st u.1)), (.pointer (some ⟨w.heap.size + 1, 4, none⟩)), (.slice (some ⟨b', o', none⟩) cp'.length pc'), (.int .i64 (i : Nat)), (.pointer (some ⟨b', o' + i * 6, none⟩)), (.pointer (some ⟨b', o' + i * 6, none⟩)), (.string (st u'.1)), (.bool true), (.bool true), undef, undef, undef, undef, undef, undef, undef, undef, undef, undef, undef, undef, undef, undef] : List Value).getD j undef) (fun _ _ _ _ h _ => h) ?_ ?_
              · intro j op hop hj a wa hwa hsz hsl hdep K hK
                have hBa : Below w.heap.size w wa := hB.out.trans (hwa.mono hB.out.size)
                have hz83 : 83 < a.tmps.size := by rw [hsz]; simp
                match j, hop with
                  | 0, hop =>
                    obtain rfl := Option.some.inj hop
                    have tq : a.tmps.getD 2 undef = .pointer (some ⟨w.heap.size, 0, none⟩) := hsl 2 rfl
                    exact .plain rfl (wp_val (w' := wa) (v := (.pointer (some ⟨w.heap.size, 4, none⟩))) (by simp only [execOp, Act.eval]; rw [show a.tmps.getD 2 undef = _ from tq]; kernel_rfl) (hK _ _ (Below.refl _ _) rfl))
                  | 1, hop =>
                    obtain rfl := Option.some.inj hop
                    have t0 : a.tmps.getD 70 undef = (.pointer (some ⟨w.heap.size, 4, none⟩)) := hdep 0 _ 70 rfl rfl ⟨⟨0, .data⟩, by simp, rfl, rfl⟩
                    have hc := (hwa.cell (p := ⟨w.heap.size, 4, none⟩) (show w.heap.size < wr.heap.size from (Array.getElem?_eq_some_iff.1 hbr.out).1)).trans c4
                    exact .plain rfl (wp_val (w' := wa) (v := (.slice (some ⟨b, o, none⟩) cp.length pc)) (by simp only [execOp, Act.eval]; rw [show a.tmps.getD 70 undef = _ from t0]; simp only [Sem.run_bind, ld_sP hc, Result.andThen_ok, Sem.run_pure]) (hK _ _ (Below.refl _ _) rfl))
                  | 2, hop =>
                    obtain rfl := Option.some.inj hop
                    have tq : a.tmps.getD 6 undef = (.int .i64 (i : Nat)) := hsl 6 rfl
                    exact .plain rfl (wp_val (w' := wa) (v := (.int .i64 (i : Nat))) (by simp only [execOp, Act.eval]; rw [show a.tmps.getD 6 undef = _ from tq]; rfl) (hK _ _ (Below.refl _ _) rfl))
                  | 3, hop =>
                    obtain rfl := Option.some.inj hop
                    have t1 : a.tmps.getD 71 undef = (.slice (some ⟨b, o, none⟩) cp.length pc) := hdep 1 _ 71 rfl rfl ⟨⟨1, .data⟩, by simp, rfl, rfl⟩
                    have t2 : a.tmps.getD 72 undef = (.int .i64 (i : Nat)) := hdep 2 _ 72 rfl rfl ⟨⟨2, .data⟩, by simp, rfl, rfl⟩
                    exact .plain rfl (wp_val (w' := wa) (v := (.pointer (some ⟨b, o + i * 6, none⟩))) (by simp only [execOp, Act.eval]; rw [show a.tmps.getD 71 undef = _ from t1, show a.tmps.getD 72 undef = _ from t2]; simp only [Sem.run_bind, ix_oP hlt, Result.andThen_ok, Sem.run_pure]) (hK _ _ (Below.refl _ _) rfl))
                  | 4, hop =>
                    obtain rfl := Option.some.inj hop
                    have t3 : a.tmps.getD 73 undef = (.pointer (some ⟨b, o + i * 6, none⟩)) := hdep 3 _ 73 rfl rfl ⟨⟨3, .data⟩, by simp, rfl, rfl⟩
                    exact .plain rfl (wp_val (w' := wa) (v := (.pointer (some ⟨b, o + i * 6, none⟩))) (by simp only [execOp, Act.eval]; rw [show a.tmps.getD 73 undef = _ from t3]; kernel_rfl) (hK _ _ (Below.refl _ _) rfl))
                  | 5, hop =>
                    obtain rfl := Option.some.inj hop
                    have t4 : a.tmps.getD 74 undef = (.pointer (some ⟨b, o + i * 6, none⟩)) := hdep 4 _ 74 rfl rfl ⟨⟨4, .data⟩, by simp, rfl, rfl⟩
                    have hc : wa.cell? ⟨b, o + i * 6, none⟩ = some (.string (st u.1)) := by
                      rw [World.cell?_of_block (w := w) (hBa.block b hbl)]
                      exact hr.out 0 _ rfl
                    exact .plain rfl (wp_val (w' := wa) (v := (.string (st u.1))) (by simp only [execOp, Act.eval]; rw [show a.tmps.getD 74 undef = _ from t4]; simp only [Sem.run_bind, ld_s0 hc, Result.andThen_ok, Sem.run_pure]) (hK _ _ (Below.refl _ _) rfl))
                  | 6, hop =>
                    obtain rfl := Option.some.inj hop
                    have tq : a.tmps.getD 3 undef = .pointer (some ⟨w.heap.size + 1, 0, none⟩) := hsl 3 rfl
                    exact .plain rfl (wp_val (w' := wa) (v := (.pointer (some ⟨w.heap.size + 1, 4, none⟩))) (by simp only [execOp, Act.eval]; rw [show a.tmps.getD 3 undef = _ from tq]; kernel_rfl) (hK _ _ (Below.refl _ _) rfl))
                  | 7, hop =>
                    obtain rfl := Option.some.inj hop
                    have t6 : a.tmps.getD 76 undef = (.pointer (some ⟨w.heap.size + 1, 4, none⟩)) := hdep 6 _ 76 rfl rfl ⟨⟨6, .data⟩, by simp, rfl, rfl⟩
                    have hc := (hwa.cell (p := ⟨w.heap.size + 1, 4, none⟩) (show w.heap.size + 1 < wr.heap.size from (Array.getElem?_eq_some_iff.1 hbs.out).1)).trans d4
                    exact .plain rfl (wp_val (w' := wa) (v := (.slice (some ⟨b', o', none⟩) cp'.length pc')) (by simp only [execOp, Act.eval]; rw [show a.tmps.getD 76 undef = _ from t6]; simp only [Sem.run_bind, ld_sP hc, Result.andThen_ok, Sem.run_pure]) (hK _ _ (Below.refl _ _) rfl))
                  | 8, hop =>
                    obtain rfl := Option.some.inj hop
                    have tq : a.tmps.getD 6 undef = (.int .i64 (i : Nat)) := hsl 6 rfl
                    exact .plain rfl (wp_val (w' := wa) (v := (.int .i64 (i : Nat))) (by simp only [execOp, Act.eval]; rw [show a.tmps.getD 6 undef = _ from tq]; rfl) (hK _ _ (Below.refl _ _) rfl))
                  | 9, hop =>
                    obtain rfl := Option.some.inj hop
                    have t7 : a.tmps.getD 77 undef = (.slice (some ⟨b', o', none⟩) cp'.length pc') := hdep 7 _ 77 rfl rfl ⟨⟨7, .data⟩, by simp, rfl, rfl⟩
                    have t8 : a.tmps.getD 78 undef = (.int .i64 (i : Nat)) := hdep 8 _ 78 rfl rfl ⟨⟨8, .data⟩, by simp, rfl, rfl⟩
                    exact .plain rfl (wp_val (w' := wa) (v := (.pointer (some ⟨b', o' + i * 6, none⟩))) (by simp only [execOp, Act.eval]; rw [show a.tmps.getD 77 undef = _ from t7, show a.tmps.getD 78 undef = _ from t8]; simp only [Sem.run_bind, ix_oP hlt', Result.andThen_ok, Sem.run_pure]) (hK _ _ (Below.refl _ _) rfl))
                  | 10, hop =>
                    obtain rfl := Option.some.inj hop
                    have t9 : a.tmps.getD 79 undef = (.pointer (some ⟨b', o' + i * 6, none⟩)) := hdep 9 _ 79 rfl rfl ⟨⟨9, .data⟩, by simp, rfl, rfl⟩
                    exact .plain rfl (wp_val (w' := wa) (v := (.pointer (some ⟨b', o' + i * 6, none⟩))) (by simp only [execOp, Act.eval]; rw [show a.tmps.getD 79 undef = _ from t9]; kernel_rfl) (hK _ _ (Below.refl _ _) rfl))
                  | 11, hop =>
                    obtain rfl := Option.some.inj hop
                    have t10 : a.tmps.getD 80 undef = (.pointer (some ⟨b', o' + i * 6, none⟩)) := hdep 10 _ 80 rfl rfl ⟨⟨10, .data⟩, by simp, rfl, rfl⟩
                    have hc : wa.cell? ⟨b', o' + i * 6, none⟩ = some (.string (st u'.1)) := by
                      rw [World.cell?_of_block (w := w) (hBa.block b' hbl')]
                      exact hr'.out 0 _ rfl
                    exact .plain rfl (wp_val (w' := wa) (v := (.string (st u'.1))) (by simp only [execOp, Act.eval]; rw [show a.tmps.getD 80 undef = _ from t10]; simp only [Sem.run_bind, ld_s0 hc, Result.andThen_ok, Sem.run_pure]) (hK _ _ (Below.refl _ _) rfl))
                  | 12, hop =>
                    obtain rfl := Option.some.inj hop
                    have t5 : a.tmps.getD 75 undef = (.string (st u.1)) := hdep 5 _ 75 rfl rfl ⟨⟨5, .data⟩, by simp, rfl, rfl⟩
                    have t11 : a.tmps.getD 81 undef = (.string (st u'.1)) := hdep 11 _ 81 rfl rfl ⟨⟨11, .data⟩, by simp, rfl, rfl⟩
                    exact .plain rfl (wp_val (w' := wa) (v := (.bool true)) (by simp only [execOp, Act.eval]; rw [show a.tmps.getD 75 undef = _ from t5, show a.tmps.getD 81 undef = _ from t11]; simp only [Sem.run_bind, eg_s, nq_s, decide_eq_false hnm, Bool.not_false, Result.andThen_ok, Sem.run_pure]) (hK _ _ (Below.refl _ _) rfl))
                  | 13, hop =>
                    obtain rfl := Option.some.inj hop
                    have t12 : a.tmps.getD 82 undef = (.bool true) := hdep 12 _ 82 rfl rfl ⟨⟨12, .data⟩, by simp, rfl, rfl⟩
                    exact .plain rfl (wp_val (w' := wa) (v := (.bool true)) (by simp only [execOp, Act.eval]; rw [show a.tmps.getD 82 undef = _ from t12]; rfl) (hK _ _ (Below.refl _ _) rfl))
                  | 14, hop =>
                    obtain rfl := Option.some.inj hop
                    have g13 : a.tmps.getD 83 undef = .bool true := hdep 13 _ 83 rfl rfl ⟨⟨13, .guard⟩, by simp, rfl, rfl⟩
                    exact .skip rfl rfl hz83 g13 (hK _ _ (Below.refl _ _) rfl)
                  | 15, hop =>
                    obtain rfl := Option.some.inj hop
                    have g13 : a.tmps.getD 83 undef = .bool true := hdep 13 _ 83 rfl rfl ⟨⟨13, .guard⟩, by simp, rfl, rfl⟩
                    exact .skip rfl rfl hz83 g13 (hK _ _ (Below.refl _ _) rfl)
                  | 16, hop =>
                    obtain rfl := Option.some.inj hop
                    have g13 : a.tmps.getD 83 undef = .bool true := hdep 13 _ 83 rfl rfl ⟨⟨13, .guard⟩, by simp, rfl, rfl⟩
                    exact .skip rfl rfl hz83 g13 (hK _ _ (Below.refl _ _) rfl)
                  | 17, hop =>
                    obtain rfl := Option.some.inj hop
                    have g13 : a.tmps.getD 83 undef = .bool true := hdep 13 _ 83 rfl rfl ⟨⟨13, .guard⟩, by simp, rfl, rfl⟩
                    exact .skip rfl rfl hz83 g13 (hK _ _ (Below.refl _ _) rfl)
                  | 18, hop =>
                    obtain rfl := Option.some.inj hop
                    have g13 : a.tmps.getD 83 undef = .bool true := hdep 13 _ 83 rfl rfl ⟨⟨13, .guard⟩, by simp, rfl, rfl⟩
                    exact .skip rfl rfl hz83 g13 (hK _ _ (Below.refl _ _) rfl)
                  | 19, hop =>
                    obtain rfl := Option.some.inj hop
                    have g13 : a.tmps.getD 83 undef = .bool true := hdep 13 _ 83 rfl rfl ⟨⟨13, .guard⟩, by simp, rfl, rfl⟩
                    exact .skip rfl rfl hz83 g13 (hK _ _ (Below.refl _ _) rfl)
                  | 20, hop =>
                    obtain rfl := Option.some.inj hop
                    have g13 : a.tmps.getD 83 undef = .bool true := hdep 13 _ 83 rfl rfl ⟨⟨13, .guard⟩, by simp, rfl, rfl⟩
                    exact .skip rfl rfl hz83 g13 (hK _ _ (Below.refl _ _) rfl)
                  | 21, hop =>
                    obtain rfl := Option.some.inj hop
                    have g13 : a.tmps.getD 83 undef = .bool true := hdep 13 _ 83 rfl rfl ⟨⟨13, .guard⟩, by simp, rfl, rfl⟩
                    exact .skip rfl rfl hz83 g13 (hK _ _ (Below.refl _ _) rfl)
                  | 22, hop =>
                    obtain rfl := Option.some.inj hop
                    have g13 : a.tmps.getD 83 undef = .bool true := hdep 13 _ 83 rfl rfl ⟨⟨13, .guard⟩, by simp, rfl, rfl⟩
                    exact .skip rfl rfl hz83 g13 (hK _ _ (Below.refl _ _) rfl)
                  | 23, hop =>
                    obtain rfl := Option.some.inj hop
                    have g13 : a.tmps.getD 83 undef = .bool true := hdep 13 _ 83 rfl rfl ⟨⟨13, .guard⟩, by simp, rfl, rfl⟩
                    exact .skip rfl rfl hz83 g13 (hK _ _ (Below.refl _ _) rfl)
                  | 24, hop =>
                    obtain rfl := Option.some.inj hop
                    have g13 : a.tmps.getD 83 undef = .bool true := hdep 13 _ 83 rfl rfl ⟨⟨13, .guard⟩, by simp, rfl, rfl⟩
                    exact .skip rfl rfl hz83 g13 (hK _ _ (Below.refl _ _) rfl)
                  | 25, hop =>
                    obtain rfl := Option.some.inj hop
                    have g13 : a.tmps.getD 83 undef = .bool true := hdep 13 _ 83 rfl rfl ⟨⟨13, .guard⟩, by simp, rfl, rfl⟩
                    exact .skip rfl rfl hz83 g13 (hK _ _ (Below.refl _ _) rfl)
                  | 26, hop =>
                    obtain rfl := Option.some.inj hop
                    have g13 : a.tmps.getD 83 undef = .bool true := hdep 13 _ 83 rfl rfl ⟨⟨13, .guard⟩, by simp, rfl, rfl⟩
                    exact .skip rfl rfl hz83 g13 (hK _ _ (Below.refl _ _) rfl)
                  | 27, hop =>
                    obtain rfl := Option.some.inj hop
                    have g13 : a.tmps.getD 83 undef = .bool true := hdep 13 _ 83 rfl rfl ⟨⟨13, .guard⟩, by simp, rfl, rfl⟩
                    exact .skip rfl rfl hz83 g13 (hK _ _ (Below.refl _ _) rfl)
                  | 28, _ => exact absurd rfl hj
                  | _ + 29, hop => exact absurd hop (by simp)
              · intro a wa hwa hdf hsz hsl hrr K hK
                have g13 : a.tmps.getD 83 undef = (.bool true) := hrr 13 _ 83 rfl (by decide) rfl
                have g27 : a.tmps.getD 97 undef = undef := hrr 27 _ 97 rfl (by decide) rfl
                have hbw2 := hide1 (hbw.out.trans (hwa.mono hbw.out.size))
                refine .plain rfl (wp_val (w' := wa) (v := (.bool true)) (by simp only [execOp, Act.eval]; rw [show a.tmps.getD 83 undef = _ from g13, show a.tmps.getD 97 undef = _ from g27]; rfl) ?_)
                refine hK _ wa ?_
                have hact := act_puts hdf hsz hsl
                have hBf := hide1 (hB.out.trans (hwa.mono hB.out.size))
                clear hrr hsl hdf hsz hK g13 g27 ih
                simp only [List.filterMap_cons, List.filterMap_nil, List.foldl_cons, List.foldl_nil] at hact
                rw [hact]
                generalize a.tmps.getD 70 undef = y70
                generalize a.tmps.getD 71 undef = y71
                generalize a.tmps.getD 72 undef = y72
                generalize a.tmps.getD 73 undef = y73
                generalize a.tmps.getD 74 undef = y74
                generalize a.tmps.getD 75 undef = y75
                generalize a.tmps.getD 76 undef = y76
                generalize a.tmps.getD 77 undef = y77
                generalize a.tmps.getD 78 undef = y78
                generalize a.tmps.getD 79 undef = y79
                generalize a.tmps.getD 80 undef = y80
                generalize a.tmps.getD 81 undef = y81
                generalize a.tmps.getD 82 undef = y82
                generalize a.tmps.getD 83 undef = y83
                generalize a.tmps.getD 84 undef = y84
                generalize a.tmps.getD 85 undef = y85
                generalize a.tmps.getD 86 undef = y86
                generalize a.tmps.getD 87 undef = y87
                generalize a.tmps.getD 88 undef = y88
                generalize a.tmps.getD 89 undef = y89
                generalize a.tmps.getD 90 undef = y90
                generalize a.tmps.getD 91 undef = y91
                generalize a.tmps.getD 92 undef = y92
                generalize a.tmps.getD 93 undef = y93
                generalize a.tmps.getD 94 undef = y94
                generalize a.tmps.getD 95 undef = y95
                generalize a.tmps.getD 96 undef = y96
                generalize a.tmps.getD 97 undef = y97
                generalize a.tmps.getD 98 undef = y98
                clear hact a
                rw [decide_eq_false hnm, Bool.false_and] at hms
                refine (‹∀ (a : Act) (w : World), Code.wp Tryz.prog _ _ a w → _›) _ wa ?_
                have hf : Hid ((Ending.returned (.bool false) : Ending) = .returned (.bool E) ∧ Below w.heap.size w wa) := hide1 ⟨hout.out _ (by rw [hE3.out, hms.out]), hBf.out⟩
                simp only [Act.put, List.setIfInBounds_toArray, List.set_cons_succ, List.set_cons_zero]
                go_wp2
                go_ret
                exact hf.out
            refine wp_flowG 28 _ _ (by kernel_rfl) (by kernel_rfl) (by kernel_rfl) rfl (fun j v _ => v = ([(.pointer (some ⟨w.heap.size, 4, none⟩)), (.slice (some ⟨b, o, none⟩) cp.length pc), (.int .i64 (i : Nat)), (.pointer (some ⟨b, o + i * 6, none⟩)), (.pointer (some ⟨b, o + i * 6, none⟩)), (.string (st u.1)), (.pointer (some ⟨w.heap.size + 1, 4, none⟩)), (.slice (some ⟨b', o', none⟩) cp'.length pc'), (.int .i64 (i : Nat)), (.pointer (some ⟨b', o' + i * 6, none⟩)), (.pointer (some ⟨b', o' + i * 6, none⟩)), (.string (st u'.1)), (.bool false), (.bool false), (.pointer (some ⟨w.heap.size, 4, none⟩)), (.slice (some ⟨b, o, none⟩) cp.length pc), (.int .i64 (i : Nat)), (.pointer (some ⟨b, o + i * 6, none⟩)), (.pointer (some ⟨b, o + i * 6 + 1, none⟩)), (.agg #[x1, x2, x3, x4, x5]), (.pointer (some ⟨w.heap.size + 1, 4, none⟩)), (.slice (some ⟨b', o', none⟩) cp'.length pc'), (.int .i64 (i : Nat)), (.pointer (some ⟨b', o' + i * 6, none⟩)), (.pointer (some ⟨b', o' + i * 6 + 1, none⟩)), (.agg #[z1, z2, z3, z4, z5]), (.bool (exB h u.2 u'.2)), (.bool (!exB h u.2 u'.2))] : List Value).getD j undef) (fun _ _ _ _ h _ => h) ?_ ?_
            · intro j op hop hj a wa hwa hsz hsl hdep K hK
              have hBa : Below w.heap.size w wa := hB.out.trans (hwa.mono hB.out.size)
              have hz83 : 83 < a.tmps.size := by rw [hsz]; simp
              match j, hop with
                | 0, hop =>
                  obtain rfl := Option.some.inj hop
                  have tq : a.tmps.getD 2 undef = .pointer (some ⟨w.heap.size, 0, none⟩) := hsl 2 rfl
                  exact .plain rfl (wp_val (w' := wa) (v := (.pointer (some ⟨w.heap.size, 4, none⟩))) (by simp only [execOp, Act.eval]; rw [show a.tmps.getD 2 undef = _ from tq]; kernel_rfl) (hK _ _ (Below.refl _ _) rfl))
                | 1, hop =>
                  obtain rfl := Option.some.inj hop
                  have t0 : a.tmps.getD 70 undef = (.pointer (some ⟨w.heap.size, 4, none⟩)) := hdep 0 _ 70 rfl rfl ⟨⟨0, .data⟩, by simp, rfl, rfl⟩
                  have hc := (hwa.cell (p := ⟨w.heap.size, 4, none⟩) (show w.heap.size < wr.heap.size from (Array.getElem?_eq_some_iff.1 hbr.out).1)).trans c4
                  exact .plain rfl (wp_val (w' := wa) (v := (.slice (some ⟨b, o, none⟩) cp.length pc)) (by simp only [execOp, Act.eval]; rw [show a.tmps.getD 70 undef = _ from t0]; simp only [Sem.run_bind, ld_sP hc, Result.andThen_ok, Sem.run_pure]) (hK _ _ (Below.refl _ _) rfl))
                | 2, hop =>
                  obtain rfl := Option.some.inj hop
                  have tq : a.tmps.getD 6 undef = (.int .i64 (i : Nat)) := hsl 6 rfl
                  exact .plain rfl (wp_val (w' := wa) (v := (.int .i64 (i : Nat))) (by simp only [execOp, Act.eval]; rw [show a.tmps.getD 6 undef = _ from tq]; rfl) (hK _ _ (Below.refl _ _) rfl))
                | 3, hop =>
                  obtain rfl := Option.some.inj hop
                  have t1 : a.tmps.getD 71 undef = (.slice (some ⟨b, o, none⟩) cp.length pc) := hdep 1 _ 71 rfl rfl ⟨⟨1, .data⟩, by simp, rfl, rfl⟩
                  have t2 : a.tmps.getD 72 undef = (.int .i64 (i : Nat)) := hdep 2 _ 72 rfl rfl ⟨⟨2, .data⟩, by simp, rfl, rfl⟩
                  exact .plain rfl (wp_val (w' := wa) (v := (.pointer (some ⟨b, o + i * 6, none⟩))) (by simp only [execOp, Act.eval]; rw [show a.tmps.getD 71 undef = _ from t1, show a.tmps.getD 72 undef = _ from t2]; simp only [Sem.run_bind, ix_oP hlt, Result.andThen_ok, Sem.run_pure]) (hK _ _ (Below.refl _ _) rfl))
                | 4, hop =>
                  obtain rfl := Option.some.inj hop
                  have t3 : a.tmps.getD 73 undef = (.pointer (some ⟨b, o + i * 6, none⟩)) := hdep 3 _ 73 rfl rfl ⟨⟨3, .data⟩, by simp, rfl, rfl⟩
                  exact .plain rfl (wp_val (w' := wa) (v := (.pointer (some ⟨b, o + i * 6, none⟩))) (by simp only [execOp, Act.eval]; rw [show a.tmps.getD 73 undef = _ from t3]; kernel_rfl) (hK _ _ (Below.refl _ _) rfl))
                | 5, hop =>
                  obtain rfl := Option.some.inj hop
                  have t4 : a.tmps.getD 74 undef = (.pointer (some ⟨b, o + i * 6, none⟩)) := hdep 4 _ 74 rfl rfl ⟨⟨4, .data⟩, by simp, rfl, rfl⟩
                  have hc : wa.cell? ⟨b, o + i * 6, none⟩ = some (.string (st u.1)) := by
                    rw [World.cell?_of_block (w := w) (hBa.block b hbl)]
                    exact hr.out 0 _ rfl
                  exact .plain rfl (wp_val (w' := wa) (v := (.string (st u.1))) (by simp only [execOp, Act.eval]; rw [show a.tmps.getD 74 undef = _ from t4]; simp only [Sem.run_bind, ld_s0 hc, Result.andThen_ok, Sem.run_pure]) (hK _ _ (Below.refl _ _) rfl))
                | 6, hop =>
                  obtain rfl := Option.some.inj hop
                  have tq : a.tmps.getD 3 undef = .pointer (some ⟨w.heap.size + 1, 0, none⟩) := hsl 3 rfl
                  exact .plain rfl (wp_val (w' := wa) (v := (.pointer (some ⟨w.heap.size + 1, 4, none⟩))) (by simp only [execOp, Act.eval]; rw [show a.tmps.getD 3 undef = _ from tq]; kernel_rfl) (hK _ _ (Below.refl _ _) rfl))
                | 7, hop =>
                  obtain rfl := Option.some.inj hop
                  have t6 : a.tmps.getD 76 undef = (.pointer (some ⟨w.heap.size + 1, 4, none⟩)) := hdep 6 _ 76 rfl rfl ⟨⟨6, .data⟩, by simp, rfl, rfl⟩
                  have hc := (hwa.cell (p := ⟨w.heap.size + 1, 4, none⟩) (show w.heap.size + 1 < wr.heap.size from (Array.getElem?_eq_some_iff.1 hbs.out).1)).trans d4
                  exact .plain rfl (wp_val (w' := wa) (v := (.slice (some ⟨b', o', none⟩) cp'.length pc')) (by simp only [execOp, Act.eval]; rw [show a.tmps.getD 76 undef = _ from t6]; simp only [Sem.run_bind, ld_sP hc, Result.andThen_ok, Sem.run_pure]) (hK _ _ (Below.refl _ _) rfl))
                | 8, hop =>
                  obtain rfl := Option.some.inj hop
                  have tq : a.tmps.getD 6 undef = (.int .i64 (i : Nat)) := hsl 6 rfl
                  exact .plain rfl (wp_val (w' := wa) (v := (.int .i64 (i : Nat))) (by simp only [execOp, Act.eval]; rw [show a.tmps.getD 6 undef = _ from tq]; rfl) (hK _ _ (Below.refl _ _) rfl))
                | 9, hop =>
                  obtain rfl := Option.some.inj hop
                  have t7 : a.tmps.getD 77 undef = (.slice (some ⟨b', o', none⟩) cp'.length pc') := hdep 7 _ 77 rfl rfl ⟨⟨7, .data⟩, by simp, rfl, rfl⟩
                  have t8 : a.tmps.getD 78 undef = (.int .i64 (i : Nat)) := hdep 8 _ 78 rfl rfl ⟨⟨8, .data⟩, by simp, rfl, rfl⟩
                  exact .plain rfl (wp_val (w' := wa) (v := (.pointer (some ⟨b', o' + i * 6, none⟩))) (by simp only [execOp, Act.eval]; rw [show a.tmps.getD 77 undef = _ from t7, show a.tmps.getD 78 undef = _ from t8]; simp only [Sem.run_bind, ix_oP hlt', Result.andThen_ok, Sem.run_pure]) (hK _ _ (Below.refl _ _) rfl))
                | 10, hop =>
                  obtain rfl := Option.some.inj hop
                  have t9 : a.tmps.getD 79 undef = (.pointer (some ⟨b', o' + i * 6, none⟩)) := hdep 9 _ 79 rfl rfl ⟨⟨9, .data⟩, by simp, rfl, rfl⟩
                  exact .plain rfl (wp_val (w' := wa) (v := (.pointer (some ⟨b', o' + i * 6, none⟩))) (by simp only [execOp, Act.eval]; rw [show a.tmps.getD 79 undef = _ from t9]; kernel_rfl) (hK _ _ (Below.refl _ _) rfl))
                | 11, hop =>
                  obtain rfl := Option.some.inj hop
                  have t10 : a.tmps.getD 80 undef = (.pointer (some ⟨b', o' + i * 6, none⟩)) := hdep 10 _ 80 rfl rfl ⟨⟨10, .data⟩, by simp, rfl, rfl⟩
                  have hc : wa.cell? ⟨b', o' + i * 6, none⟩ = some (.string (st u'.1)) := by
                    rw [World.cell?_of_block (w := w) (hBa.block b' hbl')]
                    exact hr'.out 0 _ rfl
                  exact .plain rfl (wp_val (w' := wa) (v := (.string (st u'.1))) (by simp only [execOp, Act.eval]; rw [show a.tmps.getD 80 undef = _ from t10]; simp only [Sem.run_bind, ld_s0 hc, Result.andThen_ok, Sem.run_pure]) (hK _ _ (Below.refl _ _) rfl))
                | 12, hop =>
                  obtain rfl := Option.some.inj hop
                  have t5 : a.tmps.getD 75 undef = (.string (st u.1)) := hdep 5 _ 75 rfl rfl ⟨⟨5, .data⟩, by simp, rfl, rfl⟩
                  have t11 : a.tmps.getD 81 undef = (.string (st u'.1)) := hdep 11 _ 81 rfl rfl ⟨⟨11, .data⟩, by simp, rfl, rfl⟩
                  exact .plain rfl (wp_val (w' := wa) (v := (.bool false)) (by simp only [execOp, Act.eval]; rw [show a.tmps.getD 75 undef = _ from t5, show a.tmps.getD 81 undef = _ from t11]; simp only [Sem.run_bind, eg_s, nq_s, decide_eq_true hnm, Bool.not_true, Result.andThen_ok, Sem.run_pure]) (hK _ _ (Below.refl _ _) rfl))
                | 13, hop =>
                  obtain rfl := Option.some.inj hop
                  have t12 : a.tmps.getD 82 undef = (.bool false) := hdep 12 _ 82 rfl rfl ⟨⟨12, .data⟩, by simp, rfl, rfl⟩
                  exact .plain rfl (wp_val (w' := wa) (v := (.bool false)) (by simp only [execOp, Act.eval]; rw [show a.tmps.getD 82 undef = _ from t12]; rfl) (hK _ _ (Below.refl _ _) rfl))
                | 14, hop =>
                  obtain rfl := Option.some.inj hop
                  have g13 : a.tmps.getD 83 undef = .bool false := hdep 13 _ 83 rfl rfl ⟨⟨13, .guard⟩, by simp, rfl, rfl⟩
                  have tq : a.tmps.getD 2 undef = .pointer (some ⟨w.heap.size, 0, none⟩) := hsl 2 rfl
                  exact .want rfl rfl hz83 g13 (wp_val (w' := wa) (v := (.pointer (some ⟨w.heap.size, 4, none⟩))) (by simp only [execOp, Act.eval]; rw [show a.tmps.getD 2 undef = _ from tq]; kernel_rfl) (hK _ _ (Below.refl _ _) rfl))
                | 15, hop =>
                  obtain rfl := Option.some.inj hop
                  have g13 : a.tmps.getD 83 undef = .bool false := hdep 13 _ 83 rfl rfl ⟨⟨13, .guard⟩, by simp, rfl, rfl⟩
                  have t14 : a.tmps.getD 84 undef = (.pointer (some ⟨w.heap.size, 4, none⟩)) := hdep 14 _ 84 rfl rfl ⟨⟨14, .data⟩, by simp, rfl, rfl⟩
                  have hc := (hwa.cell (p := ⟨w.heap.size, 4, none⟩) (show w.heap.size < wr.heap.size from (Array.getElem?_eq_some_iff.1 hbr.out).1)).trans c4
                  exact .want rfl rfl hz83 g13 (wp_val (w' := wa) (v := (.slice (some ⟨b, o, none⟩) cp.length pc)) (by simp only [execOp, Act.eval]; rw [show a.tmps.getD 84 undef = _ from t14]; simp only [Sem.run_bind, ld_sP hc, Result.andThen_ok, Sem.run_pure]) (hK _ _ (Below.refl _ _) rfl))
                | 16, hop =>
                  obtain rfl := Option.some.inj hop
                  have g13 : a.tmps.getD 83 undef = .bool false := hdep 13 _ 83 rfl rfl ⟨⟨13, .guard⟩, by simp, rfl, rfl⟩
                  have tq : a.tmps.getD 6 undef = (.int .i64 (i : Nat)) := hsl 6 rfl
                  exact .want rfl rfl hz83 g13 (wp_val (w' := wa) (v := (.int .i64 (i : Nat))) (by simp only [execOp, Act.eval]; rw [show a.tmps.getD 6 undef = _ from tq]; rfl) (hK _ _ (Below.refl _ _) rfl))
                | 17, hop =>
                  obtain rfl := Option.some.inj hop
                  have g13 : a.tmps.getD 83 undef = .bool false := hdep 13 _ 83 rfl rfl ⟨⟨13, .guard⟩, by simp, rfl, rfl⟩
                  have t15 : a.tmps.getD 85 undef = (.slice (some ⟨b, o, none⟩) cp.length pc) := hdep 15 _ 85 rfl rfl ⟨⟨15, .data⟩, by simp, rfl, rfl⟩
                  have t16 : a.tmps.getD 86 undef = (.int .i64 (i : Nat)) := hdep 16 _ 86 rfl rfl ⟨⟨16, .data⟩, by simp, rfl, rfl⟩
                  exact .want rfl rfl hz83 g13 (wp_val (w' := wa) (v := (.pointer (some ⟨b, o + i * 6, none⟩))) (by simp only [execOp, Act.eval]; rw [show a.tmps.getD 85 undef = _ from t15, show a.tmps.getD 86 undef = _ from t16]; simp only [Sem.run_bind, ix_oP hlt, Result.andThen_ok, Sem.run_pure]) (hK _ _ (Below.refl _ _) rfl))
                | 18, hop =>
                  obtain rfl := Option.some.inj hop
                  have g13 : a.tmps.getD 83 undef = .bool false := hdep 13 _ 83 rfl rfl ⟨⟨13, .guard⟩, by simp, rfl, rfl⟩
                  have t17 : a.tmps.getD 87 undef = (.pointer (some ⟨b, o + i * 6, none⟩)) := hdep 17 _ 87 rfl rfl ⟨⟨17, .data⟩, by simp, rfl, rfl⟩
                  exact .want rfl rfl hz83 g13 (wp_val (w' := wa) (v := (.pointer (some ⟨b, o + i * 6 + 1, none⟩))) (by simp only [execOp, Act.eval]; rw [show a.tmps.getD 87 undef = _ from t17]; kernel_rfl) (hK _ _ (Below.refl _ _) rfl))
                | 19, hop =>
                  obtain rfl := Option.some.inj hop
                  have g13 : a.tmps.getD 83 undef = .bool false := hdep 13 _ 83 rfl rfl ⟨⟨13, .guard⟩, by simp, rfl, rfl⟩
                  have t18 : a.tmps.getD 88 undef = (.pointer (some ⟨b, o + i * 6 + 1, none⟩)) := hdep 18 _ 88 rfl rfl ⟨⟨18, .data⟩, by simp, rfl, rfl⟩
                  have hrr : wa.rangeAt b (o + i * 6 + 1) [x1, x2, x3, x4, x5] := fun q v hq => by
                    rw [World.cell?_of_block (w := w) (hBa.block b hbl)]
                    have := hr.out (q + 1) v (by simpa using hq)
                    rw [show o + i * 6 + 1 + q = o + i * 6 + (q + 1) by omega]
                    exact this
                  exact .want rfl rfl hz83 g13 (wp_val (w' := wa) (v := (.agg #[x1, x2, x3, x4, x5])) (by simp only [execOp, Act.eval]; rw [show a.tmps.getD 88 undef = _ from t18]; simp only [Sem.run_bind, ld_mV hrr, Result.andThen_ok, Sem.run_pure]) (hK _ _ (Below.refl _ _) rfl))
                | 20, hop =>
                  obtain rfl := Option.some.inj hop
                  have g13 : a.tmps.getD 83 undef = .bool false := hdep 13 _ 83 rfl rfl ⟨⟨13, .guard⟩, by simp, rfl, rfl⟩
                  have tq : a.tmps.getD 3 undef = .pointer (some ⟨w.heap.size + 1, 0, none⟩) := hsl 3 rfl
                  exact .want rfl rfl hz83 g13 (wp_val (w' := wa) (v := (.pointer (some ⟨w.heap.size + 1, 4, none⟩))) (by simp only [execOp, Act.eval]; rw [show a.tmps.getD 3 undef = _ from tq]; kernel_rfl) (hK _ _ (Below.refl _ _) rfl))
                | 21, hop =>
                  obtain rfl := Option.some.inj hop
                  have g13 : a.tmps.getD 83 undef = .bool false := hdep 13 _ 83 rfl rfl ⟨⟨13, .guard⟩, by simp, rfl, rfl⟩
                  have t20 : a.tmps.getD 90 undef = (.pointer (some ⟨w.heap.size + 1, 4, none⟩)) := hdep 20 _ 90 rfl rfl ⟨⟨20, .data⟩, by simp, rfl, rfl⟩
                  have hc := (hwa.cell (p := ⟨w.heap.size + 1, 4, none⟩) (show w.heap.size + 1 < wr.heap.size from (Array.getElem?_eq_some_iff.1 hbs.out).1)).trans d4
                  exact .want rfl rfl hz83 g13 (wp_val (w' := wa) (v := (.slice (some ⟨b', o', none⟩) cp'.length pc')) (by simp only [execOp, Act.eval]; rw [show a.tmps.getD 90 undef = _ from t20]; simp only [Sem.run_bind, ld_sP hc, Result.andThen_ok, Sem.run_pure]) (hK _ _ (Below.refl _ _) rfl))
                | 22, hop =>
                  obtain rfl := Option.some.inj hop
                  have g13 : a.tmps.getD 83 undef = .bool false := hdep 13 _ 83 rfl rfl ⟨⟨13, .guard⟩, by simp, rfl, rfl⟩
                  have tq : a.tmps.getD 6 undef = (.int .i64 (i : Nat)) := hsl 6 rfl
                  exact .want rfl rfl hz83 g13 (wp_val (w' := wa) (v := (.int .i64 (i : Nat))) (by simp only [execOp, Act.eval]; rw [show a.tmps.getD 6 undef = _ from tq]; rfl) (hK _ _ (Below.refl _ _) rfl))
                | 23, hop =>
                  obtain rfl := Option.some.inj hop
                  have g13 : a.tmps.getD 83 undef = .bool false := hdep 13 _ 83 rfl rfl ⟨⟨13, .guard⟩, by simp, rfl, rfl⟩
                  have t21 : a.tmps.getD 91 undef = (.slice (some ⟨b', o', none⟩) cp'.length pc') := hdep 21 _ 91 rfl rfl ⟨⟨21, .data⟩, by simp, rfl, rfl⟩
                  have t22 : a.tmps.getD 92 undef = (.int .i64 (i : Nat)) := hdep 22 _ 92 rfl rfl ⟨⟨22, .data⟩, by simp, rfl, rfl⟩
                  exact .want rfl rfl hz83 g13 (wp_val (w' := wa) (v := (.pointer (some ⟨b', o' + i * 6, none⟩))) (by simp only [execOp, Act.eval]; rw [show a.tmps.getD 91 undef = _ from t21, show a.tmps.getD 92 undef = _ from t22]; simp only [Sem.run_bind, ix_oP hlt', Result.andThen_ok, Sem.run_pure]) (hK _ _ (Below.refl _ _) rfl))
                | 24, hop =>
                  obtain rfl := Option.some.inj hop
                  have g13 : a.tmps.getD 83 undef = .bool false := hdep 13 _ 83 rfl rfl ⟨⟨13, .guard⟩, by simp, rfl, rfl⟩
                  have t23 : a.tmps.getD 93 undef = (.pointer (some ⟨b', o' + i * 6, none⟩)) := hdep 23 _ 93 rfl rfl ⟨⟨23, .data⟩, by simp, rfl, rfl⟩
                  exact .want rfl rfl hz83 g13 (wp_val (w' := wa) (v := (.pointer (some ⟨b', o' + i * 6 + 1, none⟩))) (by simp only [execOp, Act.eval]; rw [show a.tmps.getD 93 undef = _ from t23]; kernel_rfl) (hK _ _ (Below.refl _ _) rfl))
                | 25, hop =>
                  obtain rfl := Option.some.inj hop
                  have g13 : a.tmps.getD 83 undef = .bool false := hdep 13 _ 83 rfl rfl ⟨⟨13, .guard⟩, by simp, rfl, rfl⟩
                  have t24 : a.tmps.getD 94 undef = (.pointer (some ⟨b', o' + i * 6 + 1, none⟩)) := hdep 24 _ 94 rfl rfl ⟨⟨24, .data⟩, by simp, rfl, rfl⟩
                  have hrr : wa.rangeAt b' (o' + i * 6 + 1) [z1, z2, z3, z4, z5] := fun q v hq => by
                    rw [World.cell?_of_block (w := w) (hBa.block b' hbl')]
                    have := hr'.out (q + 1) v (by simpa using hq)
                    rw [show o' + i * 6 + 1 + q = o' + i * 6 + (q + 1) by omega]
                    exact this
                  exact .want rfl rfl hz83 g13 (wp_val (w' := wa) (v := (.agg #[z1, z2, z3, z4, z5])) (by simp only [execOp, Act.eval]; rw [show a.tmps.getD 94 undef = _ from t24]; simp only [Sem.run_bind, ld_mV hrr, Result.andThen_ok, Sem.run_pure]) (hK _ _ (Below.refl _ _) rfl))
                | 26, hop =>
                  obtain rfl := Option.some.inj hop
                  have g13 : a.tmps.getD 83 undef = .bool false := hdep 13 _ 83 rfl rfl ⟨⟨13, .guard⟩, by simp, rfl, rfl⟩
                  have t19 : a.tmps.getD 89 undef = (.agg #[x1, x2, x3, x4, x5]) := hdep 19 _ 89 rfl rfl ⟨⟨19, .data⟩, by simp, rfl, rfl⟩
                  have t25 : a.tmps.getD 95 undef = (.agg #[z1, z2, z3, z4, z5]) := hdep 25 _ 95 rfl rfl ⟨⟨25, .data⟩, by simp, rfl, rfl⟩
                  have hcal := ih (c := [x1, x2, x3, x4, x5]) (c' := [z1, z2, z3, z4, z5]) hhu (VA.frame (c := [x1, x2, x3, x4, x5]) hxu.out (w' := wa) (G := F) (fun j _ hj => hBa.block j hj) (fun _ h _ => h)) (VA.frame (c := [z1, z2, z3, z4, z5]) hxu'.out (w' := wa) (G := G) (fun j _ hj => hBa.block j hj) (fun _ h _ => h))
                  refine .want rfl rfl hz83 g13 (oper_any (J := fun r w' => r = .bool (exB h u.2 u'.2) ∧ Below wa.heap.size wa w') 14 #[.tmp 89, .tmp 95] _ rfl #[.agg #[x1, x2, x3, x4, x5], .agg #[z1, z2, z3, z4, z5]] (by simp only [List.map_toArray, List.map_cons, List.map_nil, Act.eval]; rw [show a.tmps.getD 89 undef = _ from t19, show a.tmps.getD 95 undef = _ from t25]) (fun w => by kernel_rfl) (hcal.mono fun e w' h => ⟨_, h.1, rfl, h.2⟩) ?_)
                  rintro r w' ⟨rfl, hb⟩
                  exact hK _ _ hb rfl
                | 27, hop =>
                  obtain rfl := Option.some.inj hop
                  have g13 : a.tmps.getD 83 undef = .bool false := hdep 13 _ 83 rfl rfl ⟨⟨13, .guard⟩, by simp, rfl, rfl⟩
                  have t26 : a.tmps.getD 96 undef = (.bool (exB h u.2 u'.2)) := hdep 26 _ 96 rfl rfl ⟨⟨26, .data⟩, by simp, rfl, rfl⟩
                  exact .want rfl rfl hz83 g13 (wp_val (w' := wa) (v := (.bool (!exB h u.2 u'.2))) (by simp only [execOp, Act.eval]; rw [show a.tmps.getD 96 undef = _ from t26]; kernel_rfl) (hK _ _ (Below.refl _ _) rfl))
                | 28, _ => exact absurd rfl hj
                | _ + 29, hop => exact absurd hop (by simp)
            · intro a wa hwa hdf hsz hsl hrr K hK
              have g13 : a.tmps.getD 83 undef = (.bool false) := hrr 13 _ 83 rfl (by decide) rfl
              have g27 : a.tmps.getD 97 undef = (.bool (!exB h u.2 u'.2)) := hrr 27 _ 97 rfl (by decide) rfl
              have hbw2 := hide1 (hbw.out.trans (hwa.mono hbw.out.size))
              refine .plain rfl (wp_val (w' := wa) (v := (.bool (!exB h u.2 u'.2))) (by simp only [execOp, Act.eval]; rw [show a.tmps.getD 83 undef = _ from g13, show a.tmps.getD 97 undef = _ from g27]; rfl) ?_)
              refine hK _ wa ?_
              have hact := act_puts hdf hsz hsl
              have hBf := hide1 (hB.out.trans (hwa.mono hB.out.size))
              clear hrr hsl hdf hsz hK g13 g27 ih
              simp only [List.filterMap_cons, List.filterMap_nil, List.foldl_cons, List.foldl_nil] at hact
              rw [hact]
              generalize a.tmps.getD 70 undef = y70
              generalize a.tmps.getD 71 undef = y71
              generalize a.tmps.getD 72 undef = y72
              generalize a.tmps.getD 73 undef = y73
              generalize a.tmps.getD 74 undef = y74
              generalize a.tmps.getD 75 undef = y75
              generalize a.tmps.getD 76 undef = y76
              generalize a.tmps.getD 77 undef = y77
              generalize a.tmps.getD 78 undef = y78
              generalize a.tmps.getD 79 undef = y79
              generalize a.tmps.getD 80 undef = y80
              generalize a.tmps.getD 81 undef = y81
              generalize a.tmps.getD 82 undef = y82
              generalize a.tmps.getD 83 undef = y83
              generalize a.tmps.getD 84 undef = y84
              generalize a.tmps.getD 85 undef = y85
              generalize a.tmps.getD 86 undef = y86
              generalize a.tmps.getD 87 undef = y87
              generalize a.tmps.getD 88 undef = y88
              generalize a.tmps.getD 89 undef = y89
              generalize a.tmps.getD 90 undef = y90
              generalize a.tmps.getD 91 undef = y91
              generalize a.tmps.getD 92 undef = y92
              generalize a.tmps.getD 93 undef = y93
              generalize a.tmps.getD 94 undef = y94
              generalize a.tmps.getD 95 undef = y95
              generalize a.tmps.getD 96 undef = y96
              generalize a.tmps.getD 97 undef = y97
              generalize a.tmps.getD 98 undef = y98
              clear hact a
              rw [decide_eq_true hnm, Bool.true_and] at hms
              cases hex : exB h u.2 u'.2 with
              | true =>
                rw [hex, Bool.true_and] at hms
                refine (‹∀ (a : Act) (w : World), Code.wp Tryz.prog _ _ a w → _›) _ wa ?_
                simp only [Bool.not_true, Act.put, List.setIfInBounds_toArray, List.set_cons_succ, List.set_cons_zero]
                go_wp2
                go_roundw
                case rel => exact ⟨i + 1, rfl, by omega, hide1 hms.out.symm, hbw2⟩
                case measure => simp [intOf]; omega
              | false =>
                rw [hex, Bool.false_and] at hms
                refine (‹∀ (a : Act) (w : World), Code.wp Tryz.prog _ _ a w → _›) _ wa ?_
                have hf : Hid ((Ending.returned (.bool false) : Ending) = .returned (.bool E) ∧ Below w.heap.size w wa) := hide1 ⟨hout.out _ (by rw [hE3.out, hms.out]), hBf.out⟩
                simp only [Bool.not_false, Act.put, List.setIfInBounds_toArray, List.set_cons_succ, List.set_cons_zero]
                go_wp2
                go_ret
                exact hf.out
          · have hie : i = cp.length := by omega
            subst hie
            clear hlt
            have hf : Hid ((Ending.returned (.bool true) : Ending) = .returned (.bool E) ∧ Below w.heap.size w wr) := hide1 ⟨hout.out _ (by
              rw [hE3.out, ← hme.out, List.drop_of_length_le (by have := e2.out; omega)]
              cases p'.drop cp.length <;> rfl), hB.out⟩
            go_wp2
            go_ret
            exact hf.out
theorem ex_d : ∀ h, Eok h
  | 0 => fun hh => hh.elim
  | h + 1 => ex_s (ex_d h)
end Go.Proofs.YtpkncanbebpknaaGreatDoor

namespace Go.Proofs.YtpkncanbebpknaaGreatDoor
open Go.RowKit

theorem fd_drop {l : List (List UInt8 × T)} {i : Nat} {a : List UInt8 × T} {n : List UInt8} (ha : l[i]? = some a) : (l.drop i).find? (fun q => q.1 == n) = if a.1 = n then some a else (l.drop (i + 1)).find? (fun q => q.1 == n) := by
  obtain ⟨h1, e1⟩ := List.getElem?_eq_some_iff.1 ha
  rw [List.drop_eq_getElem_cons h1, e1, List.find?_cons]
  by_cases h : a.1 = n
  · simp [h]
  · rw [if_neg h]
    have : (a.1 == n) = false := by simpa using h
    rw [this]
/-- What the reference's Get answers. -/
def AnH (F : Nat → Prop) (w : World) (o : Option T) (e : Ending) (w' : World) : Prop :=
  ∃ c : Array Value, e = .returned (.tuple #[.agg c, .bool o.isSome]) ∧ Below w.heap.size w w' ∧ ((∃ t, o = some t ∧ VA F w' t c.toList) ∨ (o = none ∧ c = zV))
set_option maxHeartbeats 4000000 in
set_option maxRecDepth 100000 in
theorem get_r {F : Nat → Prop} {w : World} {k ki : Int} {s nm : List UInt8} {l : List T} {p : List (List UInt8 × T)} {c : List Value} (hb : p.length ≤ 1000000) (hv : VA F w (.mk k ki s l p) c) : Calls Tryz.prog 22 #[.agg c.toArray, .string (st nm)] w (AnH F w (getP k p nm)) := by
  cases hv with
  | @mk _ _ _ _ _ sl sp cl cp r1 r2 e1 e2 hl hp1 hp2 =>
    obtain ⟨pa, pc, rfl⟩ : ∃ va vc, sp = .slice va cp.length vc := by
      obtain ⟨_, ⟨a, cap, h1, h2⟩ | ⟨b, o, cap, cur, fz, h1, _⟩⟩ := r2
      · exact ⟨a, cap, by rw [h1, h2]; rfl⟩
      · exact ⟨_, cap, h1⟩
    obtain ⟨wb, hwb⟩ : ∃ wb, wb = (w.alloc (.cells #[.int .i64 k, .int .i64 ki, .string (st s), sl, .slice pa cp.length pc] 28)).alloc (.cells zV 28) := ⟨_, rfl⟩
    have hb0 : Below w.heap.size w wb := by rw [hwb]; exact blw_al ((Below.refl _ _).alloc (Nat.le_refl _) _) (by simp) _
    have hbx : wb.heap[w.heap.size]? = some (.cells #[.int .i64 k, .int .i64 ki, .string (st s), sl, .slice pa cp.length pc] 28 (0, 0)) := by
      rw [hwb]
      show ((w.heap.push _).push _)[w.heap.size]? = _
      rw [Array.getElem?_push, if_neg (by simp), Array.getElem?_push, if_pos rfl]
    have hby : wb.heap[w.heap.size + 1]? = some (.cells zV 28 (0, 0)) := by
      rw [hwb]
      show ((w.heap.push _).push _)[w.heap.size + 1]? = _
      rw [Array.getElem?_push, if_pos (by simp)]
    have hsb : wb.heap.size = w.heap.size + 2 := by rw [hwb]; simp
    have hcb : cp.length ≤ 1000000 := by omega
    unfold zV at hwb
    replace hb0 := hide1 hb0
    replace hbx := hide1 hbx
    replace hby := hide1 hby
    replace hsb := hide1 hsb
    replace e2 := hide1 e2
    have hG : Hid (getP k p nm = if k = 5 then (p.find? (fun q => q.1 == nm)).map (·.2) else none) := hide1 rfl
    generalize getP k p nm = E at *
    clear hb
    go_enter Tryz.func22, Tryz.ntmps22
    go_wp2_with fail
    rw [← hwb]
    clear hwb
    go_loopw [6] (fun x wr => ∃ i : Nat, x = .int .i64 (i : Nat) ∧ i ≤ cp.length ∧ wr = wb ∧ Hid ((p.drop i).find? (fun q => q.1 == nm) = p.find? (fun q => q.1 == nm))) (fun x _ => cp.length - (intOf x).toNat)
    case atStart => exact ⟨0, rfl, by omega, rfl, hide1 rfl⟩
    case round =>
      obtain ⟨i, rfl, hin, rfl, hme⟩ := hrel
      have hbr := hbx.out
      have hr4 := hby.out
      have c0 : wr.cell? ⟨w.heap.size, 0, none⟩ = some (.int .i64 k) := by simp only [World.cell?, hbr]; rfl
      have c4 : wr.cell? ⟨w.heap.size, 4, none⟩ = some (.slice pa cp.length pc) := by simp only [World.cell?, hbr]; rfl
      have hend : (i < cp.length → k ≠ 5) → Hid (AnH F w E (.returned (.tuple #[.agg zV, .bool false])) (wr.setRow (w.heap.size + 1) zV)) := fun h => hide1 (by
        have hE : E = none := by
          rw [hG.out]
          split
          · rename_i h5
            have : ¬ i < cp.length := fun hh => h hh h5
            rw [← hme.out, List.drop_of_length_le (by have := e2.out; omega)]; rfl
          · rfl
        rw [hE]
        exact ⟨zV, rfl, blw_own hb0.out (by omega) _, .inr ⟨rfl, rfl⟩⟩)
      have hz := setRow_heap wr (w.heap.size + 1) _ zV _ _ hr4
      unfold zV at hend hz
      by_cases hlt : i < cp.length
      · by_cases hk5 : k = 5
        · subst hk5
          obtain ⟨x, hx⟩ : ∃ x, cp[i]? = some x := ⟨_, List.getElem?_eq_getElem hlt⟩
          obtain ⟨u, hu⟩ : ∃ u, p[i]? = some u := ⟨_, List.getElem?_eq_getElem (by have := e2.out; omega)⟩
          have hxn := hp1 i u x hu hx
          have hxu := hp2 i u x hu hx
          obtain ⟨b, o, cap, hve, -, hbl, hr⟩ := r2.at hx
          have hva : pa = some ⟨b, o, none⟩ := by cases hve; rfl
          subst hva
          obtain ⟨x0, x1, x2, x3, x4, x5, rfl⟩ := arr6 (r2.1 x (List.mem_of_getElem? hx))
          simp only [List.head?_cons, Option.some.injEq] at hxn
          subst hxn
          have hms := fd_drop (n := nm) hu
          rw [hme.out] at hms
          have hc : wr.cell? ⟨b, o + i * 6, none⟩ = some (.string (st u.1)) := by
            rw [World.cell?_of_block (w := w) (hb0.out.block b hbl)]
            exact hr 0 _ rfl
          have hr2 : wr.rangeAt b (o + i * 6 + 1) [x1, x2, x3, x4, x5] := fun q v hj => by
            rw [World.cell?_of_block (w := w) (hb0.out.block b hbl)]
            have := hr (q + 1) v (by simpa using hj)
            rw [show o + i * 6 + 1 + q = o + i * 6 + (q + 1) by omega]
            exact this
          have hs1 := st_eq u.1 nm
          by_cases hn : u.1 = nm
          · have hq : ((st u.1).toList == (st nm).toList) = true := by rw [hs1]; exact decide_eq_true hn
            have ha : Hid (AnH F w E (.returned (.tuple #[.agg #[x1, x2, x3, x4, x5], .bool true])) (wr.setRow (w.heap.size + 1) #[x1, x2, x3, x4, x5])) := hide1 (by
              have hE : E = some u.2 := by rw [hG.out, if_pos rfl, hms, if_pos hn]; rfl
              rw [hE]
              refine ⟨_, rfl, blw_own hb0.out (by omega) _, .inl ⟨_, rfl, VA.frame (c := [x1, x2, x3, x4, x5]) hxu (fun j _ hj => ?_) (fun _ h _ => h)⟩⟩
              exact (setRow_other wr _ j _ (by omega)).trans (hb0.out.block j hj))
            have hz2 := hide1 (setRow_heap wr (w.heap.size + 1) _ #[x1, x2, x3, x4, x5] _ _ hr4)
            have ho := hide1 (show (#[x1, x2, x3, x4, x5].all fun x => x.oneCell') = true by simpa using VA.one (c := [x1, x2, x3, x4, x5]) hxu)
            clear hms hs1 hme hxu hr hz hend hve hx hu hn
            go_wp2_with (first
              | refine wpList_load_mid rfl 28 (.tmp 31) rfl b (o + i * 6 + 1) rfl [x1, x2, x3, x4, x5] _ hr2 Tryz.underlying28 rfl (by kernel_rfl) ?_
              | refine wpList_store_row rfl Vt (.tmp 4) (.tmp 32) rfl (w.heap.size + 1) #[x1, x2, x3, x4, x5] rfl rfl Vt _ hr4 (by kernel_rfl) rfl ho.out ?_)
            refine bodyPost_ret (results_vt rfl _ rfl rfl hz2.out) rfl ?_
            exact ha.out
          · have hq : ((st u.1).toList == (st nm).toList) = false := by rw [hs1]; exact decide_eq_false hn
            rw [if_neg hn] at hms
            replace hms := hide1 hms
            clear hs1 hme hxu hr hz hend hve hx hu hn hr2
            go_wp2
            go_roundw
            case rel => exact ⟨i + 1, rfl, by omega, trivial, hide1 hms.out.symm⟩
            case measure => simp [intOf]; omega
        · have hk : (k == 5) = false := by simpa using hk5
          replace hend := hend fun _ => hk5
          replace hz := hide1 hz
          clear hme
          go_wp2_with (refine wpList_store_row rfl Vt (.tmp 4) (.tmp 33) rfl (w.heap.size + 1) #[.int .i64 0, .int .i64 0, .string ⟨#[]⟩, .slice none 0 0, .slice none 0 0] rfl rfl Vt _ hr4 (by kernel_rfl) rfl (by kernel_rfl) ?_)
          refine bodyPost_ret (results_vt rfl _ rfl rfl hz.out) rfl ?_
          exact hend.out
      · replace hend := hend fun h => absurd h hlt
        have hie : i = cp.length := by omega
        subst hie
        replace hz := hide1 hz
        clear hme hlt
        go_wp2_with (refine wpList_store_row rfl Vt (.tmp 4) (.tmp 33) rfl (w.heap.size + 1) #[.int .i64 0, .int .i64 0, .string ⟨#[]⟩, .slice none 0 0, .slice none 0 0] rfl rfl Vt _ hr4 (by kernel_rfl) rfl (by kernel_rfl) ?_)
        refine bodyPost_ret (results_vt rfl _ rfl rfl hz.out) rfl ?_
        exact hend.out
end Go.Proofs.YtpkncanbebpknaaGreatDoor

namespace Go.Proofs.YtpkncanbebpknaaGreatDoor
open Go.RowKit

theorem mnL_all {f : T → Nat → Nat} {last : Nat} (hf : ∀ t k, 1 ≤ f t k) : ∀ (l : List T) (n : Nat), 1 ≤ n → mnL f last l n ≤ last → (∀ t ∈ l, ∃ k, k + 1 ≤ last ∧ f t k ≤ k) ∧ n + l.length ≤ last
  | [], n, _, h => ⟨by simp, h⟩
  | t :: r, n, hn, h => by
    unfold mnL at h
    split at h
    · rename_i hl
      have h1 := mnL_ge (f := f) (last := last) r (n + f t (last - n))
      have h2 := hf t (last - n)
      obtain ⟨h3, h4⟩ := mnL_all hf r _ (by omega) h
      refine ⟨fun u hu => ?_, by simp; omega⟩
      rcases List.mem_cons.1 hu with rfl | hu
      · exact ⟨last - n, by omega, by omega⟩
      · exact h3 u hu
    · omega
theorem hgt_mono : ∀ {n m : Nat} {t : T}, n ≤ m → hgt n t → hgt m t
  | 0, _, _, _, h => h.elim
  | n + 1, 0, _, hm, _ => absurd hm (by omega)
  | n + 1, m + 1, .mk _ _ _ l p, hm, h => ⟨h.1, h.2.1, fun t ht' => hgt_mono (by omega) (h.2.2.1 t ht'), fun q hq => hgt_mono (by omega) (h.2.2.2 q hq)⟩
theorem mny_hgt : ∀ {h last : Nat} {t : T}, ht h t → last ≤ 1000000 → mny h t last ≤ last → hgt last t
  | 0, _, _, hh, _, _ => hh.elim
  | h + 1, 0, t, _, _, hm => by
    have := mny_pos (h + 1) t 0
    omega
  | h + 1, m + 1, .mk k i s l p, hh, hl, hm => by
    unfold mny at hm
    have h1 := mnL_ge (f := mny h) (last := m + 1) (p.map (·.2)) (mnL (mny h) (m + 1) l 1)
    obtain ⟨a1, a2⟩ := mnL_all (mny_pos h) l 1 (Nat.le_refl _) (Nat.le_trans h1 hm)
    obtain ⟨c1, c2⟩ := mnL_all (mny_pos h) (p.map (·.2)) _ (mnL_ge l 1) hm
    rw [List.length_map] at c2
    refine ⟨by omega, by omega, fun t ht' => ?_, fun q hq => ?_⟩
    · obtain ⟨j, hj, hj2⟩ := a1 t ht'
      exact hgt_mono (by omega) (mny_hgt (hh.1 t ht') (by omega) hj2)
    · obtain ⟨j, hj, hj2⟩ := c1 q.2 (List.mem_map.2 ⟨q, hq, rfl⟩)
      exact hgt_mono (by omega) (mny_hgt (hh.2 q hq) (by omega) hj2)
/-- The value of nothing, anywhere. -/
def tz : T := .mk 0 0 [] [] []
theorem zV_is {F : Nat → Prop} {w : World} : VA F w tz zV.toList :=
  VA.mk (cl := []) (cp := []) ⟨by simp, .inl ⟨none, 0, rfl, rfl⟩⟩ ⟨by simp, .inl ⟨none, 0, rfl, rfl⟩⟩ rfl rfl (by simp) (by simp) (by simp)
theorem tz_hgt : hgt 1 tz := ⟨by simp, by simp, by simp, by simp⟩
end Go.Proofs.YtpkncanbebpknaaGreatDoor

namespace Go.Proofs.YtpkncanbebpknaaGreatDoor
open Go.RowKit

/-- What Names answers: the iterator over a copy in a box of its own. -/
def AnN (w : World) (t : T) (e : Ending) (w' : World) : Prop :=
  ∃ (bx : Nat) (c : Array Value), e = .returned (.func (.func 33) #[] #[.pointer (some ⟨bx, 0, none⟩)]) ∧ w.heap.size ≤ bx ∧ c.size = 5 ∧ w'.heap[bx]? = some (.cells c 28 (0, 0)) ∧ Below w.heap.size w w' ∧ VA (fun j => w.heap.size ≤ j ∧ j ≠ bx) w' t c.toList
set_option maxHeartbeats 4000000 in
set_option maxRecDepth 100000 in
theorem names_d {n : Nat} {F : Nat → Prop} {w : World} {t : T} {c : List Value} (hh : hgt n t) (hn : n ≤ 65536) (hv : VA F w t c) : Calls Tryz.prog 23 #[.agg c.toArray] w (AnN w t) := by
  obtain ⟨x0, x1, x2, x3, x4, rfl⟩ : ∃ x0 x1 x2 x3 x4, c = [x0, x1, x2, x3, x4] := by
    match c, hv.len with
    | [x0, x1, x2, x3, x4], _ => exact ⟨x0, x1, x2, x3, x4, rfl⟩
  replace hv := hide1 hv
  go_enter Tryz.func23, Tryz.ntmps23
  go_wp2_with fail
  have hb0 : Below w.heap.size w (w.alloc (.cells #[x0, x1, x2, x3, x4] 28)) := (Below.refl _ _).alloc (Nat.le_refl _) _
  refine (copied_d n (c := [x0, x1, x2, x3, x4]) (d := 65536) hh hn (by omega) (hv.out.frame (G := F) (fun j _ hj => hb0.block j hj) (fun _ h _ => h))).mono ?_
  rintro e w1 ⟨c, rfl, hc5, b1, hv1⟩
  obtain ⟨z0, z1, z2, z3, z4, rfl⟩ := arr5 hc5
  have hb1 : Below w.heap.size w w1 := hb0.trans (b1.mono hb0.size)
  have hs1 : w.heap.size + 1 ≤ w1.heap.size := by simpa using b1.size
  have hon := hide1 (show (#[z0, z1, z2, z3, z4].all fun x => x.oneCell') = true by simpa using hv1.one)
  have hr : (w1.alloc (.cells zV 28)).heap[w1.heap.size]? = some (.cells zV 28 (0, 0)) := by
    show (w1.heap.push _)[w1.heap.size]? = _
    rw [Array.getElem?_push, if_pos rfl]
  have hz := setRow_heap (w1.alloc (.cells zV 28)) w1.heap.size _ #[z0, z1, z2, z3, z4] _ _ hr
  have hfin : Hid (AnN w t (.returned (.func (.func 33) #[] #[.pointer (some ⟨w1.heap.size, 0, none⟩)])) ((w1.alloc (.cells zV 28)).setRow w1.heap.size #[z0, z1, z2, z3, z4])) := hide1 (by
    refine ⟨w1.heap.size, _, rfl, by omega, rfl, hz, blw_own (blw_al hb1 hb1.size _) (by omega) _, hv1.frame (fun j _ hj => ?_) (fun j hj hs => ⟨?_, ?_⟩)⟩
    · refine (setRow_other _ _ j _ (by omega)).trans ?_
      show (w1.heap.push _)[j]? = _
      rw [Array.getElem?_push, if_neg (by omega)]
    · have : (w.alloc (.cells #[x0, x1, x2, x3, x4] 28)).heap.size ≤ j := hj
      simp at this
      omega
    · omega)
  unfold zV at hr hfin
  clear hz hv1 b1 hb0 hb1 hc5 hh hv
  go_wp2_with (refine wpList_store_row rfl Vt (.tmp 3) (.tmp 5) rfl w1.heap.size #[z0, z1, z2, z3, z4] rfl rfl Vt _ hr (by kernel_rfl) rfl hon.out ?_)
  go_ret
  exact hfin.out
end Go.Proofs.YtpkncanbebpknaaGreatDoor

namespace Go.Proofs.YtpkncanbebpknaaGreatDoor
open Go.RowKit Go.Shelf
attribute [local go_sem] Oper.semAt_some

theorem roundIn_any {m n l l2 : Nat} {f : FuncId} {tmps : Array Value} {assign body : Code} {w : World} {R : Ending → World → Prop} (h : RoundIn Fence.wide m Tryz.prog l f tmps assign body w R) : RoundIn (Fence.wide.inRound l2) n Tryz.prog l f tmps assign body w R :=
  ⟨h.1, fun c cs _ => h.2 c cs (fun d hd => by cases hd)⟩
theorem grown_of {w w' : World} (h : Below w.heap.size w w') : w.grownBy w' none := ⟨h.os, h.tape, h.output, h.size, fun k hk _ => h.block k hk⟩
/-- What is handed on: a name, and a value in new memory. -/
def Hnd (B : Nat) (p : List (List UInt8 × T)) (k : Nat) (x y : Value) (W : World) : Prop :=
  ∃ (q : List UInt8 × T) (c : Array Value), p[k]? = some q ∧ x = .string (st q.1) ∧ y = .agg c ∧ c.size = 5 ∧ VA (B + 2 ≤ ·) W q.2 c.toList
/-- What the rounds of Names hold. -/
structure Nb (w W : World) (G : Nat → Prop) (bx lq : Nat) (W' : World) : Prop where
  by_ : W'.heap[W.heap.size]? = some (.cells #[.func (.yield lq) #[] #[]] 65 (0, 0))
  kx : Kx W.heap.size (fun j => (G j ∧ j < w.heap.size) ∨ j = bx) W W'
set_option maxHeartbeats 4000000 in
set_option maxRecDepth 100000 in
theorem names_in {n m : Nat} {G : Nat → Prop} {w : World} {bx : Nat} {qs : List (List UInt8 × T)} {cp : List (List Value)} {c0 : Array Value} (hm : m ≤ 65536) (hc0 : c0.size = 5) (hln : cp.length = qs.length) (hbx : w.heap[bx]? = some (.cells c0 28 (0, 0)))
    (hq : ∀ (j : Nat) (q : List UInt8 × T) (x : List Value), qs[j]? = some q → cp[j]? = some x → PA G w q x ∧ x.length = 6 ∧ hgt m q.2)
    (hseq : ∀ W b2, Below w.heap.size w W → W.heap[b2]? = some (.cells c0 28 (0, 0)) → SeqZ n 50 #[.pointer (some ⟨b2, 0, none⟩)] cp.length (fun k x y _ => ∃ c, cp[k]? = some c ∧ x = (hnd c).1 ∧ y = (hnd c).2) (fun j => (G j ∧ j < w.heap.size) ∨ j = b2) W) :
    SeqZ (n + 1) 33 #[.pointer (some ⟨bx, 0, none⟩)] cp.length (Hnd w.heap.size qs) (fun j => (G j ∧ j < w.heap.size) ∨ j = bx) w := by
  intro lq J Jx W hW hJ hJx hY h0
  obtain ⟨y0, y1, y2, y3, y4, rfl⟩ := arr5 hc0
  have hbW := (hW.block bx (Array.getElem?_eq_some_iff.1 hbx).1).trans hbx
  have hxl := (Array.getElem?_eq_some_iff.1 hbW).1
  have hbA : ∀ o, (W.alloc o).heap[bx]? = some (.cells #[y0, y1, y2, y3, y4] 28 (0, 0)) := fun o => by
    show (W.heap.push _)[bx]? = _
    rw [Array.getElem?_push, if_neg (by omega)]; exact hbW
  have l0 : ∀ o, (W.alloc o).cell? ⟨bx, 0, none⟩ = some y0 := fun o => by simp only [World.cell?, hbA]; rfl
  have l1 : ∀ o, (W.alloc o).cell? ⟨bx, 1, none⟩ = some y1 := fun o => by simp only [World.cell?, hbA]; rfl
  have l2 : ∀ o, (W.alloc o).cell? ⟨bx, 2, none⟩ = some y2 := fun o => by simp only [World.cell?, hbA]; rfl
  have l3 : ∀ o, (W.alloc o).cell? ⟨bx, 3, none⟩ = some y3 := fun o => by simp only [World.cell?, hbA]; rfl
  have l4 : ∀ o, (W.alloc o).cell? ⟨bx, 4, none⟩ = some y4 := fun o => by simp only [World.cell?, hbA]; rfl
  replace hY := hide1 hY
  replace hq := hide1 hq
  replace hseq := hide1 hseq
  replace hbA := hide1 hbA
  replace hbW := hide1 hbW
  clear hbx
  show CallsIn Fence.wide (n + 2) Tryz.prog 33 #[.func (.yield lq) #[] #[], .pointer (some ⟨bx, 0, none⟩)] W _
  refine callsIn_of_wp_marks Tryz.func33 rfl trivial ?_ rfl
  simp only [Tryz.ntmps33, List.size_toArray, List.length_cons, List.length_nil, Nat.reduceAdd, Nat.reduceSub, Array.replicate_succ, Array.replicate_zero, List.push_toArray, List.append_toArray, List.nil_append, List.cons_append]
  gi_wp2
  refine ⟨trivial, (callsIn_wide.2 (pairs_d _ _)).mono ?_⟩
  rintro e W1 ⟨rfl, rfl⟩
  clear l0 l1 l2 l3 l4
  obtain ⟨W2, hW2⟩ : ∃ W2, W2 = (W.alloc (.cells #[.func (.yield lq) #[] #[]] 65)).alloc (.cells #[y0, y1, y2, y3, y4] 28) := ⟨_, rfl⟩
  have hsz : W2.heap.size = W.heap.size + 2 := by rw [hW2]; simp
  have hby : W2.heap[W.heap.size]? = some (.cells #[.func (.yield lq) #[] #[]] 65 (0, 0)) := by
    rw [hW2]
    show ((W.heap.push _).push _)[W.heap.size]? = _
    rw [Array.getElem?_push, if_neg (by simp), Array.getElem?_push, if_pos rfl]
  have hbz : W2.heap[W.heap.size + 1]? = some (.cells #[y0, y1, y2, y3, y4] 28 (0, 0)) := by
    rw [hW2]
    show ((W.heap.push _).push _)[W.heap.size + 1]? = _
    rw [Array.getElem?_push, if_pos (by simp)]
  have hb2 : Below W.heap.size W W2 := by rw [hW2]; exact blw_al (blw_al (Below.refl _ _) (Nat.le_refl _) _) (by simp) _
  have hJ2 : J 0 W2 := by rw [hW2]; exact hJ.alloc _ (hJ.alloc _ h0)
  have hz1 : (W.alloc (.cells #[.func (.yield lq) #[] #[]] 65)).heap.size = W.heap.size + 1 := by simp
  rw [← hW2, hz1]
  have hbw := hW.trans (hb2.mono hW.size)
  have hsq := hseq.out W2 (W.heap.size + 1) hbw hbz
  have hN : Nb w W G bx lq W2 := ⟨hby, Kx.below hb2⟩
  have hws := hW.size
  clear hW2 hz1 hseq hby hbA
  replace hsz := hide1 hsz
  gi_wp2
  refine range_z (n := n) (w := W2) (gf := 50) (lb := #[.pointer (some ⟨W.heap.size + 1, 0, none⟩)]) rfl (fun _ _ => by kernel_rfl) hsq (fun j hj => by have := hsz.out; rcases hj with hj | hj <;> omega)
    (fun k W' => J k W' ∧ Nb w W G bx lq W') (fun c k W' => c = .ret ∧ Jx k W') ?hI ?hIx ⟨hJ2, hN⟩ ?round ?done ?stop
  case hI =>
    rintro k A B row ⟨hj, hn⟩ hg hr
    have h2 := hsz.out
    refine ⟨hJ k A B row hj hg (fun r e => ⟨by have := (hr r e).1; omega, (hr r e).2⟩), ?_, Nat.le_trans hn.kx.size hg.size, fun j o h1 h2' => ?_⟩
    · exact (hg.block _ (Array.getElem?_eq_some_iff.1 hn.by_).1 (fun e => by have := (hr _ e.symm).1; omega)).trans hn.by_
    · have h3 := hn.kx.same j o h1 h2'
      have hjl := (Array.getElem?_eq_some_iff.1 h1).1
      exact (hg.block _ (Array.getElem?_eq_some_iff.1 h3).1 (fun e => by have := (hr _ e.symm).1; omega)).trans h3
  case hIx =>
    rintro c k A B row ⟨hc, hj⟩ hg hr
    have h2 := hsz.out
    exact ⟨hc, hJx k A B row hj hg (fun r e => ⟨by have := (hr r e).1; omega, (hr r e).2⟩)⟩
  case round =>
    rintro l' k hk x y Wr Kq hz hI ⟨c, hc, hx, hy⟩ hK
    obtain ⟨q, hqk⟩ : ∃ q, qs[k]? = some q := ⟨_, List.getElem?_eq_getElem (by omega)⟩
    obtain ⟨hpa, hx6, hhg⟩ := hq.out k q c hqk hc
    obtain ⟨x0, x1, x2, x3, x4, x5, rfl⟩ := arr6 hx6
    have hx0 : x0 = .string (st q.1) := by simpa using hpa.1
    subst hx0
    have hva : VA G w q.2 [x1, x2, x3, x4, x5] := hpa.2
    have hon := hide1 hva.one
    simp only [hnd, List.headD_cons, List.tail_cons] at hx hy
    subst hx hy
    have hr7 : (Wr.alloc (.cells #[.int .i64 0, .int .i64 0, .string ⟨#[]⟩, .slice none 0 0, .slice none 0 0] 28)).heap[Wr.heap.size]? = some (.cells #[.int .i64 0, .int .i64 0, .string ⟨#[]⟩, .slice none 0 0, .slice none 0 0] 28 (0, 0)) := by
      show (Wr.heap.push _)[Wr.heap.size]? = _
      rw [Array.getElem?_push, if_pos rfl]
    have h7 := setRow_heap (Wr.alloc (.cells #[.int .i64 0, .int .i64 0, .string ⟨#[]⟩, .slice none 0 0, .slice none 0 0] 28)) Wr.heap.size _ #[x1, x2, x3, x4, x5] _ _ hr7
    have hal : ∀ j, j < Wr.heap.size → ((Wr.alloc (.cells #[.int .i64 0, .int .i64 0, .string ⟨#[]⟩, .slice none 0 0, .slice none 0 0] 28)).setRow Wr.heap.size #[x1, x2, x3, x4, x5]).heap[j]? = Wr.heap[j]? := fun j hj => (setRow_other _ _ j _ (by omega)).trans (by
      show (Wr.heap.push _)[j]? = _
      rw [Array.getElem?_push, if_neg (by omega)])
    have hb7 : Below Wr.heap.size Wr ((Wr.alloc (.cells #[.int .i64 0, .int .i64 0, .string ⟨#[]⟩, .slice none 0 0, .slice none 0 0] 28)).setRow Wr.heap.size #[x1, x2, x3, x4, x5]) := ⟨rfl, rfl, rfl, by simp [World.setRow], hal⟩
    have hs7 : ((Wr.alloc (.cells #[.int .i64 0, .int .i64 0, .string ⟨#[]⟩, .slice none 0 0, .slice none 0 0] 28)).setRow Wr.heap.size #[x1, x2, x3, x4, x5]).heap.size = Wr.heap.size + 1 := by simp [World.setRow]
    replace hva := hide1 hva
    have hz2 := hsz.out
    clear hc hpa hx6 hal hI
    gi_wp2_with (refine wpListIn_str rfl 28 (.tmp 4) (.tmp 8) rfl Wr.heap.size #[x1, x2, x3, x4, x5] rfl rfl 28 _ hr7 (by kernel_rfl) rfl (by simpa using hon.out) ?_)
    refine hK _ _ hb7 ?_
    rintro W3 hsame hs2 ⟨hJ3, hN3⟩
    have h72 := (hsame Wr.heap.size (by omega)).trans h7
    clear hsame h7 hK hb7 hr7
    have hva3 : VA G W3 q.2 [x1, x2, x3, x4, x5] := hva.out.frameC (fun j c t f hG hj => by
      have hjl := (Array.getElem?_eq_some_iff.1 hj).1
      have h1 := (hW.block j hjl).trans hj
      exact (hN3.kx.same j _ h1 (.inr (.inl ⟨hG, hjl⟩))).trans hj.symm) (fun _ h _ => h)
    have l0 : W3.cell? ⟨Wr.heap.size, 0, none⟩ = some x1 := by simp only [World.cell?, h72]; rfl
    have l1 : W3.cell? ⟨Wr.heap.size, 1, none⟩ = some x2 := by simp only [World.cell?, h72]; rfl
    have l2 : W3.cell? ⟨Wr.heap.size, 2, none⟩ = some x3 := by simp only [World.cell?, h72]; rfl
    have l3 : W3.cell? ⟨Wr.heap.size, 3, none⟩ = some x4 := by simp only [World.cell?, h72]; rfl
    have l4 : W3.cell? ⟨Wr.heap.size, 4, none⟩ = some x5 := by simp only [World.cell?, h72]; rfl
    have hqy : W3.cell? ⟨W.heap.size, 0, none⟩ = some (.func (.yield lq) #[] #[]) := by simp only [World.cell?, hN3.by_]; rfl
    have hqz : ∀ W4, Below W3.heap.size W3 W4 → W4.cell? ⟨W.heap.size, 0, none⟩ = some (.func (.yield lq) #[] #[]) := fun W4 h => by
      simp only [World.cell?, (h.block _ (Array.getElem?_eq_some_iff.1 hN3.by_).1).trans hN3.by_]; rfl
    have hcl : ∀ Wx, Below W3.heap.size W3 Wx → Calls Tryz.prog 32 #[.agg #[x1, x2, x3, x4, x5], .int .i64 65536] Wx fun e W4 => ∃ z0 z1 z2 z3 z4, e = .returned (.agg #[z0, z1, z2, z3, z4]) ∧ VA (W3.heap.size ≤ ·) W4 q.2 [z0, z1, z2, z3, z4] ∧ Below W3.heap.size W3 W4 := by
      intro Wx hx
      refine (copied_d m (c := [x1, x2, x3, x4, x5]) (d := 65536) hhg hm (by omega) (hva3.frame (G := G) (fun j _ hj => hx.block j hj) (fun _ h _ => h))).mono ?_
      rintro e W4 ⟨c, rfl, hc5, hb4, hv4⟩
      obtain ⟨z0, z1, z2, z3, z4, rfl⟩ := arr5 hc5
      exact ⟨z0, z1, z2, z3, z4, rfl, hv4.frame (fun _ _ _ => rfl) (fun _ h _ => Nat.le_trans hx.size h), hx.trans (hb4.mono hx.size)⟩
    have hYk : ∀ z0 z1 z2 z3 z4 W4, VA (W3.heap.size ≤ ·) W4 q.2 [z0, z1, z2, z3, z4] → Below W3.heap.size W3 W4 →
        YieldAt Fence.wide (n + 1) Tryz.prog lq #[.string (st q.1), .agg #[z0, z1, z2, z3, z4]] W4 (fun e W' => ∃ bb, e = .returned (.bool bb) ∧ Hid (Kx W.heap.size (fun j => (G j ∧ j < w.heap.size) ∨ j = bx) W4 W' ∧ (bb = true → J (k + 1) W') ∧ (bb = false → Jx k W'))) := fun z0 z1 z2 z3 z4 W4 hv hb => by
      refine YieldAt.mono (hY.out k hk _ _ W4 (hJ k W3 W4 none hJ3 (grown_of hb) (fun r e => by cases e)) ⟨q, #[z0, z1, z2, z3, z4], hqk, rfl, rfl, rfl, ?_⟩) ?_
      · exact hv.frame (fun _ _ _ => rfl) (fun j h _ => by have h1 : W3.heap.size ≤ j := h; show w.heap.size + 2 ≤ j; omega)
      · rintro e W' (⟨rfl, q1, q2⟩ | ⟨rfl, q1, q2⟩)
        · exact ⟨true, rfl, hide1 ⟨q2, fun _ => q1, fun h => by cases h⟩⟩
        · exact ⟨false, rfl, hide1 ⟨q2, (fun h => by cases h), fun _ => q1⟩⟩
    have hmx : Tryz.prog.follows .mixedOrders = true := by kernel_rfl
    replace hva3 := hide1 hva3
    replace hN3 := hide1 hN3
    replace h72 := hide1 h72
    replace hqz := hide1 hqz
    clear hhg hqk
    gi_wp2
    gi_region_with_o (first
      | (refine ⟨trivial, (fun h => absurd h (by decide)), ?_⟩; refine (CallsIn.inRound l' (callsIn_wide.2 (hcl _ (by first | exact Below.refl _ _ | exact (Below.refl _ _).drew | exact (Below.refl _ _).drew.drew)))).mono ?_; rintro e W4 ⟨z0, z1, z2, z3, z4, rfl, hv4, hb4⟩; obtain ⟨fn, tmps, assign, body, hyy, hR⟩ := hYk z0 z1 z2 z3 z4 W4 hv4 hb4; have hq4 := hqz.out W4 hb4)
      | (refine ⟨(fun h => absurd h (by decide)), ?_⟩; refine (roundIn_any hR).mono ?_; rintro e W5 ⟨bb, rfl, hout⟩))
    all_goals
      have hz3 := hide1 hz2
      have hkB : Kx W.heap.size (fun j => (G j ∧ j < w.heap.size) ∨ j = bx) W3 W5 := (Kx.below hb4).trans hout.out.1
      have hkO : Hid (Kx W2.heap.size (fun j => (G j ∧ j < w.heap.size) ∨ j = W.heap.size + 1) W3 W5) := hide1 (hkB.weak (fun j hj => by
        rcases hj with hj | hj | hj
        · exact .inl (by have := hsz.out; omega)
        · exact .inr (.inl hj)
        · exact .inl (by omega)))
      have hN5 : Hid (Nb w W G bx lq W5) := hide1 ⟨hkB.same _ _ hN3.out.by_ (.inl (Nat.le_refl _)), hN3.out.kx.trans hkB⟩
      clear hkB
      cases bb with
      | false =>
        have q1 := hide1 (hout.out.2.2 rfl)
        clear hout
        gi_wp2
        exact ⟨hkO.out, rfl, q1.out⟩
      | true =>
        have q1 := hide1 (hout.out.2.1 rfl)
        clear hout
        gi_wp2
        exact ⟨hkO.out, q1.out, hN5.out⟩
  case done =>
    rintro D W' hD ⟨hj, hn⟩ hK
    have h2 := hsz.out
    have hj2 := fun o => hide1 (hJ.putObj o hj (show W.heap.size ≤ D by omega) hK rfl)
    gi_wp2
    refine ⟨by simp, .inl ⟨_, _, rfl, run_takeDeferred hK, ?_⟩⟩
    exact ⟨_, results_none rfl _ _ _, ⟨_, rfl⟩, .inl (hj2 _).out⟩
  case stop =>
    rintro D c k W' hD hk ⟨rfl, hj⟩ hK
    have h2 := hsz.out
    have hj2 := fun o => hide1 (hJx.putObj o hj (show W.heap.size ≤ D by omega) hK rfl)
    gi_wp2
    refine ⟨by simp, .inl ⟨_, _, rfl, run_takeDeferred hK, ?_⟩⟩
    exact ⟨_, results_none rfl _ _ _, ⟨_, rfl⟩, .inr ⟨k, hk, (hj2 _).out⟩⟩
end Go.Proofs.YtpkncanbebpknaaGreatDoor

namespace Go.Proofs.YtpkncanbebpknaaGreatDoor
open Go.RowKit Go.Shelf

/-- How many pairs a value hands on. -/
def npr (k : Int) (p : List (List UInt8 × T)) : Nat := if k = 5 then p.length else 0
/-- The iterator that Names answers. -/
theorem names_seq {n m : Nat} {G : Nat → Prop} {w : World} {bx : Nat} {k ki : Int} {s : List UInt8} {l : List T} {p : List (List UInt8 × T)} {c0 : Array Value} (hm : m ≤ 65536) (hbx : w.heap[bx]? = some (.cells c0 28 (0, 0)))
    (hh : hgt (m + 1) (.mk k ki s l p)) (hv : VA G w (.mk k ki s l p) c0.toList) :
    SeqZ (n + 1) 33 #[.pointer (some ⟨bx, 0, none⟩)] (npr k p) (Hnd w.heap.size p) (fun j => (G j ∧ j < w.heap.size) ∨ j = bx) w := by
  have hc5 : c0.size = 5 := by have := hv.len; simpa using this
  obtain ⟨b1, b2, hl1, hl2⟩ := hh
  obtain ⟨c0⟩ := c0
  have hv : VA G w (.mk k ki s l p) c0 := hv
  unfold npr
  cases hv with
  | @mk _ _ _ _ _ sl sp cl cp r1 r2 e1 e2 hl hp1 hp2 =>
    by_cases hk : k = 5
    · subst hk
      rw [if_pos rfl, ← e2]
      refine names_in (qs := p) hm hc5 e2 hbx (fun j q x hq hx => ⟨⟨hp1 j q x hq hx, hp2 j q x hq hx⟩, r2.1 x (List.mem_of_getElem? hx), hl2 q (List.mem_of_getElem? hq)⟩) (fun W b2 hb hb2 => ?_)
      refine pairs_seqz (by omega) r2 (fun x hx => ?_) hb hb2
      obtain ⟨j, hj, rfl⟩ := List.mem_iff_getElem.1 hx
      have hj2 : j < p.length := by omega
      have g1 := hp1 j _ _ (List.getElem?_eq_getElem hj2) (List.getElem?_eq_getElem hj)
      have g2 := (hp2 j _ _ (List.getElem?_eq_getElem hj2) (List.getElem?_eq_getElem hj)).one
      generalize cp[j] = x at *
      cases x with
      | nil => cases g1
      | cons a b =>
        simp at g1
        subst g1
        simpa [Value.oneCell'] using g2
    · rw [if_neg hk]
      have h := names_in (n := n) (G := G) (w := w) (bx := bx) (qs := []) (cp := []) hm hc5 rfl hbx (by simp) (fun W b2 _ hb2 => pairs_seqz0 hk hb2)
      intro lq J Jx W hW hJ hJx _ h0
      exact h lq J Jx W hW hJ hJx (fun k hk => absurd hk (by simp)) h0
end Go.Proofs.YtpkncanbebpknaaGreatDoor

namespace Go.Proofs.YtpkncanbebpknaaGreatDoor
open Go.ChangeShapes Go.WideShapes Go.ChangeAt Go.RowKit

section
variable {H : Type} {enc : TypeId × Value → H} {W : World} {held : Bool}
theorem five_l {α : Type} : ∀ {l : List α}, l.length = 5 → ∃ a b c d e, l = [a, b, c, d, e]
  | [a, b, c, d, e], _ => ⟨a, b, c, d, e, rfl⟩
theorem two_l {α : Type} : ∀ {l : List α}, l.length = 2 → ∃ a b, l = [a, b]
  | [a, b], _ => ⟨a, b, rfl⟩
theorem six_l {α : Type} : ∀ {l : List α}, l.length = 6 → ∃ a r, l = a :: r ∧ r.length = 5
  | a :: r, h => ⟨a, r, rfl, by simpa using h⟩
/-- A row whose elements' cells are read. -/
theorem row_in {e : TypeId} {z len cap : Nat} {a : Addr} (hz : 0 < z) {f : Nat → List Value} (h : ∀ i, i < len → (f i).length = z ∧ ∀ j, j < z → W.cell? (a.add (i * z + j)) = (f i)[j]?) :
    RwA (· < W.heap.size) W e z (.slice (some a) len cap) ((List.range len).map f) := by
  have hl : ∀ c ∈ (List.range len).map f, c.length = z := by
    intro c hc
    obtain ⟨i, hi, rfl⟩ := List.mem_map.1 hc
    exact (h i (List.mem_range.1 hi)).1
  refine ⟨hl, ?_⟩
  rcases Nat.eq_zero_or_pos len with rfl | hp
  · exact .inl ⟨some a, cap, rfl, rfl⟩
  right
  obtain ⟨b, o, spot⟩ := a
  have h0 := (h 0 hp).2 0 hz
  have hs0 : ∃ u, W.cell? ((⟨b, o, spot⟩ : Addr).add (0 * z + 0)) = some u := ⟨_, h0.trans (List.getElem?_eq_getElem (by have := (h 0 hp).1; omega))⟩
  obtain ⟨u0, hu0⟩ := hs0
  obtain rfl : spot = none := by simpa [Addr.add] using World.cell?_spot hu0
  have hcell : ∀ i, i < len → ∀ j, j < z → W.cell? ⟨b, o + (i * z + j), none⟩ = (f i)[j]? := fun i hi j hj => by
    have := (h i hi).2 j hj
    rwa [Addr.add_lit] at this
  cases hb : W.heap[b]? with
  | none => rw [Addr.add_lit] at hu0; simp [World.cell?, hb] at hu0
  | some ob =>
    cases ob with
    | cells cur t fz =>
      have hget : ∀ i, i < len → ∀ j, j < z → cur[o + (i * z + j)]? = (f i)[j]? := fun i hi j hj => by
        have := hcell i hi j hj
        simpa [World.cell?, hb] using this
      have hsz : ∀ k, k < len * z → ∃ v, cur[o + k]? = some v ∧ ((List.range len).map f).flatten[k]? = some v := fun k hk => by
        have hi : k / z < len := by rw [Nat.div_lt_iff_lt_mul hz]; exact hk
        have hj : k % z < z := Nat.mod_lt _ hz
        have hk' : k / z * z + k % z = k := by rw [Nat.mul_comm]; exact Nat.div_add_mod k z
        have h1 := hget _ hi _ hj
        have h2 := flat_get hl (k / z) (k % z) (f (k / z)) (by simp [hi]) hj
        rw [hk'] at h1 h2
        have h3 := (h _ hi).1
        have e := List.getElem?_eq_getElem (l := f (k / z)) (i := k % z) (by omega)
        rw [e] at h1 h2
        exact ⟨_, h1, h2⟩
      have hle : o + len * z ≤ cur.size := by
        have h1 : 0 < len * z := Nat.mul_pos hp hz
        obtain ⟨v, hv, _⟩ := hsz (len * z - 1) (by omega)
        have := (Array.getElem?_eq_some_iff.1 hv).1
        omega
      refine ⟨b, o, cap, cur, (t, fz), by simp, (Array.getElem?_eq_some_iff.1 hb).1, hb, by simpa using hle, ?_⟩
      apply List.ext_getElem?
      intro k
      simp only [List.length_map, List.length_range]
      by_cases hk : k < len * z
      · obtain ⟨v, h1, h2⟩ := hsz k hk
        rw [List.getElem?_take, if_pos hk, List.getElem?_drop, Array.getElem?_toList, h1, h2]
      · rw [List.getElem?_take, if_neg hk, List.getElem?_eq_none (by rw [flat_len hl]; simp; omega)]
    | _ => rw [Addr.add_lit] at hu0; simp [World.cell?, hb] at hu0
/-- No text is longer than a text can be, so deep. -/
def sbd : Nat → T → Prop
  | 0, _ => True
  | n + 1, .mk _ _ s l p => s.length ≤ 9223372036854775807 ∧ (∀ t ∈ l, sbd n t) ∧ ∀ q ∈ p, q.1.length ≤ 9223372036854775807 ∧ sbd n q.2
set_option maxHeartbeats 1000000 in
/-- A value that was handed in. -/
theorem va_in2 : ∀ (fuel : Nat) (cs : List Value) (x : DataW H × List MemPlace), DataW.trod enc Tryz.prog W 0 (fun _ => true) held fuel 28 cs = some x → ∃ t, VA (· < W.heap.size) W t cs ∧ ∀ n, sbd n t := by
  intro fuel
  induction fuel using Nat.strongRecOn with
  | _ fuel ih =>
    intro cs x h
    obtain ⟨xs, n, rfl, _, hl, hxl, hf⟩ := DataW.trod_struct Tryz.underlying28 h
    have c5 : Tryz.prog.cellsOf 28 = 5 := by kernel_rfl
    have c6 : Tryz.prog.cellsOf 53 = 6 := by kernel_rfl
    rw [c5] at hl
    obtain ⟨v0, v1, v2, v3, v4, rfl⟩ := five_l hl
    obtain ⟨y0, y1, y2, y3, y4, rfl⟩ := five_l hxl
    have c1 : Tryz.prog.cellsOf 3 = 1 := by kernel_rfl
    have c2 : Tryz.prog.cellsOf 9 = 1 := by kernel_rfl
    have c3 : Tryz.prog.cellsOf 25 = 1 := by kernel_rfl
    have c4 : Tryz.prog.cellsOf 26 = 1 := by kernel_rfl
    have g0 : DataW.trod enc Tryz.prog W 0 (fun _ => true) held n 3 (([v0, v1, v2, v3, v4].drop 0).take (Tryz.prog.cellsOf 3)) = some y0 := hf 0 _ rfl
    rw [c1] at g0
    replace g0 : DataW.trod enc Tryz.prog W 0 (fun _ => true) held n 3 [v0] = some y0 := g0
    have g1 : DataW.trod enc Tryz.prog W 0 (fun _ => true) held n 3 (([v0, v1, v2, v3, v4].drop 1).take (Tryz.prog.cellsOf 3)) = some y1 := hf 1 _ rfl
    rw [c1] at g1
    replace g1 : DataW.trod enc Tryz.prog W 0 (fun _ => true) held n 3 [v1] = some y1 := g1
    have g2 : DataW.trod enc Tryz.prog W 0 (fun _ => true) held n 9 (([v0, v1, v2, v3, v4].drop 2).take (Tryz.prog.cellsOf 9)) = some y2 := hf 2 _ rfl
    rw [c2] at g2
    replace g2 : DataW.trod enc Tryz.prog W 0 (fun _ => true) held n 9 [v2] = some y2 := g2
    have g3 : DataW.trod enc Tryz.prog W 0 (fun _ => true) held n 25 (([v0, v1, v2, v3, v4].drop 3).take (Tryz.prog.cellsOf 25)) = some y3 := hf 3 _ rfl
    rw [c3] at g3
    replace g3 : DataW.trod enc Tryz.prog W 0 (fun _ => true) held n 25 [v3] = some y3 := g3
    have g4 : DataW.trod enc Tryz.prog W 0 (fun _ => true) held n 26 (([v0, v1, v2, v3, v4].drop 4).take (Tryz.prog.cellsOf 26)) = some y4 := hf 4 _ rfl
    rw [c4] at g4
    replace g4 : DataW.trod enc Tryz.prog W 0 (fun _ => true) held n 26 [v4] = some y4 := g4
    obtain ⟨kd, e0, _, _⟩ := DataW.trod_int Tryz.underlying3 g0
    obtain ⟨ki, e1, _, _⟩ := DataW.trod_int Tryz.underlying3 g1
    obtain ⟨s, e2, _, sz2⟩ := DataW.trod_string Tryz.underlying9 g2
    cases e0; cases e1; cases e2
    obtain ⟨l, cl, R1, L1, S1, V1⟩ : ∃ (l : List T) (cl : List (List Value)), RwA (· < W.heap.size) W Vt 5 v3 cl ∧ cl.length = l.length ∧ (∀ t ∈ l, ∀ n, sbd n t) ∧ ∀ (j : Nat) (t : T) (c : List Value), l[j]? = some t → cl[j]? = some c → VA (· < W.heap.size) W t c := by
      rcases DataW.trod_slice Tryz.underlying25 g3 with ⟨e, _⟩ | ⟨a, len, cap, el, rs, m, rfl, e, _, _, hlc, hcm, hel, hgo, _, _⟩
      · cases e
        exact ⟨[], [], RwA.nil, rfl, by simp, fun j t c h => by simp at h⟩
      · cases e
        rw [c5] at hgo
        have hex : ∀ i, i < len → ∃ q : List Value × T, (q.1.length = 5 ∧ ∀ j, j < 5 → W.cell? (a.add (i * 5 + j)) = q.1[j]?) ∧ (VA (· < W.heap.size) W q.2 q.1 ∧ ∀ n, sbd n q.2) := fun i hi => by
          have h1 := hgo i hi
          rw [List.getElem?_eq_getElem (by omega)] at h1
          obtain ⟨ci, h2, h3⟩ := Option.bind_eq_some_iff.1 h1
          obtain ⟨_, h4, h5⟩ := World.cells?_some h2
          obtain ⟨t, ht⟩ := ih m (by omega) ci _ h3
          refine ⟨(ci, t), ⟨h4, fun j hj => ?_⟩, ht⟩
          have := h5 j hj
          rwa [Addr.add_add] at this
        haveI : Inhabited (List Value × T) := ⟨([], .mk 0 0 [] [] [])⟩
        obtain ⟨f, hf⟩ := Deep.choose_lt hex
        refine ⟨(List.range len).map fun i => (f i).2, (List.range len).map fun i => (f i).1, row_in (by omega) (f := fun i => (f i).1) fun i hi => (hf i hi).1, by simp, fun t ht => ?_, fun j t c h1 h2 => ?_⟩
        · obtain ⟨i, hi, rfl⟩ := List.mem_map.1 ht
          exact (hf i (List.mem_range.1 hi)).2.2
        have hj : j < len := by have := (List.getElem?_eq_some_iff.1 h1).1; simpa using this
        simp [hj] at h1 h2
        subst h1 h2
        exact (hf j hj).2.1
    obtain ⟨p, cp, R2, L2, S2, N2, V2⟩ : ∃ (p : List (List UInt8 × T)) (cp : List (List Value)), RwA (· < W.heap.size) W Pt 6 v4 cp ∧ cp.length = p.length ∧ (∀ q ∈ p, ∀ n, q.1.length ≤ 9223372036854775807 ∧ sbd n q.2) ∧ (∀ (j : Nat) (q : List UInt8 × T) (c : List Value), p[j]? = some q → cp[j]? = some c → c.head? = some (Value.string (st q.1))) ∧ ∀ (j : Nat) (q : List UInt8 × T) (c : List Value), p[j]? = some q → cp[j]? = some c → VA (· < W.heap.size) W q.2 c.tail := by
      rcases DataW.trod_slice Tryz.underlying26 g4 with ⟨e, _⟩ | ⟨a, len, cap, el, rs, m, rfl, e, _, _, hlc, hcm, hel, hgo, _, _⟩
      · cases e
        exact ⟨[], [], RwA.nil, rfl, by simp, fun j t c h => by simp at h, fun j t c h => by simp at h⟩
      · cases e
        rw [c6] at hgo
        have hex : ∀ i, i < len → ∃ q : List Value × (List UInt8 × T), (q.1.length = 6 ∧ ∀ j, j < 6 → W.cell? (a.add (i * 6 + j)) = q.1[j]?) ∧ q.1.head? = some (Value.string (st q.2.1)) ∧ (VA (· < W.heap.size) W q.2.2 q.1.tail ∧ ∀ n, q.2.1.length ≤ 9223372036854775807 ∧ sbd n q.2.2) := fun i hi => by
          have h1 := hgo i hi
          rw [List.getElem?_eq_getElem (by omega)] at h1
          obtain ⟨ci, h2, h3⟩ := Option.bind_eq_some_iff.1 h1
          obtain ⟨_, h4, h5⟩ := World.cells?_some h2
          obtain ⟨zs, k, rfl, _, hl6, hz2, hg⟩ := DataW.trod_struct Tryz.underlying53 h3
          obtain ⟨u0, r, rfl, hr⟩ := six_l h4
          obtain ⟨w0, w1, rfl⟩ := two_l hz2
          have k0 : DataW.trod enc Tryz.prog W 0 (fun _ => true) held k 9 (((u0 :: r).drop 0).take (Tryz.prog.cellsOf 9)) = some w0 := hg 0 _ rfl
          rw [c2] at k0
          replace k0 : DataW.trod enc Tryz.prog W 0 (fun _ => true) held k 9 [u0] = some w0 := by simpa using k0
          have k1 : DataW.trod enc Tryz.prog W 0 (fun _ => true) held k 28 (((u0 :: r).drop 1).take (Tryz.prog.cellsOf 28)) = some w1 := hg 1 _ rfl
          rw [c5] at k1
          replace k1 : DataW.trod enc Tryz.prog W 0 (fun _ => true) held k 28 r = some w1 := by
            rwa [List.drop_succ_cons, List.drop_zero, List.take_of_length_le (by omega)] at k1
          obtain ⟨s0, e0, _, sz0⟩ := DataW.trod_string Tryz.underlying9 k0
          cases e0
          obtain ⟨t, ht⟩ := ih k (by omega) r _ k1
          refine ⟨(.string s0 :: r, (s0.data.toList, t)), ⟨h4, fun j hj => ?_⟩, by simp [st], ht.1, fun n => ⟨by have : s0.data.toList.length = s0.size := rfl; rw [this]; unfold maxLen at sz0; omega, ht.2 n⟩⟩
          have := h5 j hj
          rwa [Addr.add_add] at this
        haveI : Inhabited (List Value × (List UInt8 × T)) := ⟨([], ([], .mk 0 0 [] [] []))⟩
        obtain ⟨f, hf⟩ := Deep.choose_lt hex
        refine ⟨(List.range len).map fun i => (f i).2, (List.range len).map fun i => (f i).1, row_in (by omega) (f := fun i => (f i).1) fun i hi => (hf i hi).1, by simp, fun t ht => ?_, fun j t c h1 h2 => ?_, fun j t c h1 h2 => ?_⟩
        · obtain ⟨i, hi, rfl⟩ := List.mem_map.1 ht
          exact (hf i (List.mem_range.1 hi)).2.2.2
        · have hj : j < len := by have := (List.getElem?_eq_some_iff.1 h1).1; simpa using this
          simp [hj] at h1 h2
          subst h1 h2
          exact (hf j hj).2.1
        · have hj : j < len := by have := (List.getElem?_eq_some_iff.1 h1).1; simpa using this
          simp [hj] at h1 h2
          subst h1 h2
          exact (hf j hj).2.2.1
    refine ⟨.mk kd ki s.data.toList l p, ?_, fun n => ?_⟩
    · have := VA.mk (F := (· < W.heap.size)) (w := W) (k := kd) (i := ki) (s := s.data.toList) R1 R2 L1 L2 V1 N2 V2
      simpa [st] using this
    · cases n with
      | zero => trivial
      | succ n => exact ⟨by have : s.data.toList.length = s.size := rfl; rw [this]; unfold maxLen at sz2; omega, fun t ht => S1 t ht n, fun q hq => S2 q hq n⟩
theorem va_in (fuel : Nat) (cs : List Value) (x : DataW H × List MemPlace) (h : DataW.trod enc Tryz.prog W 0 (fun _ => true) held fuel 28 cs = some x) : ∃ t, VA (· < W.heap.size) W t cs :=
  let ⟨t, h1, _⟩ := va_in2 fuel cs x h
  ⟨t, h1⟩
end
end Go.Proofs.YtpkncanbebpknaaGreatDoor

namespace Go.Proofs.YtpkncanbebpknaaGreatDoor
open Go.RowKit Go.Shelf
attribute [local go_sem] Oper.semAt_some

theorem below_one (w : World) (o : Obj) : Below w.heap.size w (w.alloc o) := (Below.refl _ _).alloc (Nat.le_refl _) _
theorem kp {w w' : World} {b : Nat} {o : Obj} (h : Below w.heap.size w w') (r : w.heap[b]? = some o) : w'.heap[b]? = some o := (h.block b (Array.getElem?_eq_some_iff.1 r).1).trans r
theorem bl2 {w w1 w2 : World} (h : Below w.heap.size w w1) (k : Below w1.heap.size w1 w2) : Below w.heap.size w w2 := h.trans (k.mono h.size)
theorem results_b {fn : Func} {p : Tmp} (h : fn.results = #[.cell p 4]) (tmps : Array Value) {u : World} {b : Nat} {x : Bool} (ht : tmps.getD p undef = .pointer (some ⟨b, 0, none⟩)) (hc : u.cell? ⟨b, 0, none⟩ = some (.bool x)) : (results fn tmps).run Tryz.prog u = .ok (.bool x) u := by
  have ht2 : tmps[p]?.getD undef = .pointer (some ⟨b, 0, none⟩) := by simpa using ht
  simp [results, h, ht2, asAddr, go_sem, hc]
theorem c5 {w : World} {b : Nat} {x0 x1 x2 x3 x4 : Value} {t : TypeId} (h : w.heap[b]? = some (.cells #[x0, x1, x2, x3, x4] t (0, 0))) : w.cell? ⟨b, 0, none⟩ = some x0 ∧ w.cell? ⟨b, 1, none⟩ = some x1 ∧ w.cell? ⟨b, 2, none⟩ = some x2 ∧ w.cell? ⟨b, 3, none⟩ = some x3 ∧ w.cell? ⟨b, 4, none⟩ = some x4 := by
  simp [World.cell?, h]
theorem c1 {w : World} {b : Nat} {x : Value} {t : TypeId} (h : w.heap[b]? = some (.cells #[x] t (0, 0))) : w.cell? ⟨b, 0, none⟩ = some x ∧ w.frozen? ⟨b, 0, none⟩ = false := by
  simp [World.cell?, World.frozen?, h]

theorem set1 {w : World} {b : Nat} {x : Value} {t : TypeId} (h : w.heap[b]? = some (.cells #[x] t (0, 0))) (y : Value) : (w.setCell ⟨b, 0, none⟩ y).heap[b]? = some (.cells #[y] t (0, 0)) := by
  simp [World.setCell, h, Array.getElem?_modify]
theorem seto {w : World} {b c : Nat} {o : Obj} (h : w.heap[c]? = some o) (hne : c ≠ b) (y : Value) : (w.setCell ⟨b, 0, none⟩ y).heap[c]? = some o := by
  rw [Below.heap_setCell _ _ _ _ (by simpa using hne)]; exact h

/-- The zero value laid, then written over. -/
theorem lay5 {w : World} {c : Array Value} : let u := (w.alloc (.cells #[.int .i64 0, .int .i64 0, .string ⟨#[]⟩, .slice none 0 0, .slice none 0 0] 28)); u.heap[w.heap.size]? = some (.cells #[.int .i64 0, .int .i64 0, .string ⟨#[]⟩, .slice none 0 0, .slice none 0 0] 28 (0, 0)) ∧ (u.setRow w.heap.size c).heap[w.heap.size]? = some (.cells c 28 (0, 0)) ∧ Below w.heap.size w (u.setRow w.heap.size c) ∧ (u.setRow w.heap.size c).heap.size = w.heap.size + 1 := by
  have h0 : (w.alloc (.cells #[.int .i64 0, .int .i64 0, .string ⟨#[]⟩, .slice none 0 0, .slice none 0 0] 28)).heap[w.heap.size]? = some (.cells #[.int .i64 0, .int .i64 0, .string ⟨#[]⟩, .slice none 0 0, .slice none 0 0] 28 (0, 0)) := by
    show (w.heap.push _)[w.heap.size]? = _
    rw [Array.getElem?_push, if_pos rfl]
  refine ⟨h0, setRow_heap _ _ _ _ _ _ h0, ⟨rfl, rfl, rfl, by simp [World.setRow], fun j hj => (setRow_other _ _ j _ (by omega)).trans ?_⟩, by simp [World.setRow]⟩
  show (w.heap.push _)[j]? = _
  rw [Array.getElem?_push, if_neg (by omega)]
theorem getP_hgt {n : Nat} {k ki : Int} {s nm : List UInt8} {l : List T} {p : List (List UInt8 × T)} (h : hgt (n + 1) (.mk k ki s l p)) (hn : 1 ≤ n) : hgt n ((getP k p nm).getD tz) := by
  obtain ⟨_, _, _, h4⟩ := h
  unfold getP
  split
  · cases hf : p.find? (fun q => q.1 == nm) with
    | none => exact hgt_mono hn tz_hgt
    | some q => exact h4 q (List.mem_of_find?_eq_some hf)
  · exact hgt_mono hn tz_hgt

/-- The boxes of JsonNames while it goes through the pairs. -/
structure Ln (w : World) (b5 : Nat) (cv : Array Value) (M kx many : Int) (W : World) : Prop where
  r0 : W.heap[w.heap.size]? = some (.cells cv 28 (0, 0))
  r1 : W.heap[w.heap.size + 1]? = some (.cells #[.int .i64 M] 3 (0, 0))
  r2 : W.heap[w.heap.size + 1 + 1]? = some (.cells #[.bool false] 4 (0, 0))
  r5 : W.heap[b5]? = some (.cells #[.int .i64 kx] 3 (0, 0))
  r6 : W.heap[b5 + 1]? = some (.cells #[.int .i64 many] 3 (0, 0))
  bw : Below w.heap.size w W
theorem Ln.keep {w : World} {b5 : Nat} {cv : Array Value} {M kx many : Int} {W W' : World} (h : Ln w b5 cv M kx many W) (hb : Below W.heap.size W W') : Ln w b5 cv M kx many W' :=
  ⟨kp hb h.r0, kp hb h.r1, kp hb h.r2, kp hb h.r5, kp hb h.r6, bl2 h.bw hb⟩
theorem Ln.grown {w : World} {b5 B : Nat} {cv : Array Value} {M kx many : Int} {W W' : World} {row : Option Nat} (h : Ln w b5 cv M kx many W) (hg : W.grownBy W' row) (hr : ∀ r, row = some r → B ≤ r) (h1 : w.heap.size + 3 ≤ B) (h2 : b5 + 2 ≤ B) : Ln w b5 cv M kx many W' := by
  have kk : ∀ {b : Nat} {o : Obj}, b < B → W.heap[b]? = some o → W'.heap[b]? = some o := fun {b o} hb hh => (hg.block b (Array.getElem?_eq_some_iff.1 hh).1 (fun e => by have := hr _ e.symm; omega)).trans hh
  exact ⟨kk (by omega) h.r0, kk (by omega) h.r1, kk (by omega) h.r2, kk (by omega) h.r5, kk (by omega) h.r6, h.bw.grown hg h.bw.size (fun r e => by have := hr r e; omega)⟩

set_option maxHeartbeats 4000000 in
set_option maxRecDepth 100000 in
theorem jnames_no {w : World} {t : T} {c : Array Value} {nm : List UInt8} {most : Int} (hno : ∀ k ki s l p, t = .mk k ki s l p → k ≠ 5) (hv : VA (· < w.heap.size) w t c.toList) (hT : Ev w) (h8 : 8 ≤ w.heap.size) :
    Calls Tryz.prog 6 #[.agg c, .string (st nm), .int .i64 most] w fun e w' => e = .returned (.bool true) ∧ Below w.heap.size w w' := by
  have hc5 : c.size = 5 := by have := hv.len; simpa using this
  obtain ⟨x0, x1, x2, x3, x4, rfl⟩ := arr5 hc5
  have hv : VA (· < w.heap.size) w t [x0, x1, x2, x3, x4] := hv
  have hv0 := hv
  obtain ⟨kk, ki, s, l, p⟩ := t
  have hno := hno kk ki s l p rfl
  cases hv0 with
  | @mk _ _ _ _ _ _ _ cl cp q1 q2 e1 e2 hl hp1 hp2 =>
  have q2 := hide1 q2
  have hp1 := hide1 hp1
  have hp2 := hide1 hp2
  clear hl q1 e1
  obtain ⟨w1, hw1⟩ : ∃ w1, w1 = ((w.alloc (.cells #[.int .i64 kk, .int .i64 ki, .string (st s), x3, x4] 28)).alloc (.cells #[.int .i64 most] 3)).alloc (.cells #[.bool false] 4) := ⟨_, rfl⟩
  have hsz1 : w1.heap.size = w.heap.size + 3 := by rw [hw1]; simp
  have hb1 : Below w.heap.size w w1 := by rw [hw1]; exact ((below_one w _).alloc (by simp) _).alloc (by simp; omega) _
  have r0 : w1.heap[w.heap.size]? = some (.cells #[.int .i64 kk, .int .i64 ki, .string (st s), x3, x4] 28 (0, 0)) := by
    rw [hw1]
    show (((w.heap.push _).push _).push _)[w.heap.size]? = _
    exact (push3 _ _ _ _).1
  have r1 : w1.heap[w.heap.size + 1]? = some (.cells #[.int .i64 most] 3 (0, 0)) := by
    rw [hw1]
    show (((w.heap.push _).push _).push _)[w.heap.size + 1]? = _
    exact (push3 _ _ _ _).2.1
  have r2 : w1.heap[w.heap.size + 2]? = some (.cells #[.bool false] 4 (0, 0)) := by
    rw [hw1]
    show (((w.heap.push _).push _).push _)[w.heap.size + 2]? = _
    exact (push3 _ _ _ _).2.2
  obtain ⟨h, hht⟩ := hv.ht
  replace hv := hide1 hv
  refine (callsIn_wide (n := 8)).1 ?_
  refine callsIn_of_wp_marks Tryz.func6 rfl trivial ?_ rfl
  simp only [Tryz.ntmps6, List.size_toArray, List.length_cons, List.length_nil, Nat.reduceAdd, Nat.reduceSub, Array.replicate_succ, Array.replicate_zero, List.push_toArray, List.append_toArray, List.nil_append, List.cons_append]
  gi_wp2
  rw [← hw1]
  refine ⟨trivial, (callsIn_wide.2 (alive_j (hT.below hb1 (by omega)) (by omega))).mono ?_⟩
  rintro e w2 ⟨rfl, hb2⟩
  replace r0 := kp hb2 r0
  replace r1 := kp hb2 r1
  replace r2 := kp hb2 r2
  have hs2 := hb2.size
  replace hb2 := bl2 hb1 hb2
  clear hb1 hw1
  obtain ⟨l0, l1, l2, l3, l4⟩ := c5 r0
  gi_wp2
  refine ⟨trivial, (callsIn_wide.2 (many_d h (c := [.int .i64 kk, .int .i64 ki, .string (st s), x3, x4]) (k := 300) hht (by omega) (hv.out.frame (G := (· < w.heap.size)) (fun j _ hj => hb2.block j hj) (fun _ h _ => h)))).mono ?_⟩
  rintro e w3 ⟨rfl, hb3⟩
  replace r0 := kp hb3 r0
  replace r1 := kp hb3 r1
  replace r2 := kp hb3 r2
  have hs3 := hb3.size
  replace hb3 := bl2 hb2 hb3
  clear hb2 l0 l1 l2 l3 l4
  obtain ⟨d2, f2⟩ := c1 r2
  obtain ⟨mn, hmn⟩ : ∃ mn, Hid (mn = mny h (.mk kk ki s l p) 300) := ⟨_, hide1 rfl⟩
  rw [← hmn.out]
  by_cases hM : 300 < mn
  · have hc := (c1 (set1 r2 (.bool true))).1
    have hbb := hide1 (hb3.setCell (p := ⟨w.heap.size + 1 + 1, 0, none⟩) (by show w.heap.size ≤ w.heap.size + 1 + 1; omega) (.bool true))
    gi_wp2
    exact ⟨_, results_b rfl _ rfl hc, rfl, hbb.out⟩
  have hgt0 := mny_hgt hht (show 300 ≤ 1000000 by omega) (by rw [← hmn.out]; omega)
  obtain ⟨m0, hm0, e0⟩ : ∃ m0 : Nat, m0 < 20 ∧ (IntKind.u64.wrap most).tmod 20 = (m0 : Int) := by
    have h1 : 0 ≤ IntKind.u64.wrap most := by
      simp only [IntKind.wrap, IntKind.bits, IntKind.signed]
      simp
      omega
    rw [Int.tmod_eq_emod_of_nonneg h1]
    exact ⟨(IntKind.u64.wrap most % 20).toNat, by omega, by omega⟩
  obtain ⟨d1, f1⟩ := c1 r1
  obtain ⟨l0, l1, l2, l3, l4⟩ := c5 r0
  have hz3 : w.heap.size + 3 ≤ w3.heap.size := by omega
  obtain ⟨w4, hw4⟩ : ∃ w4, w4 = w3.setCell ⟨w.heap.size + 1, 0, none⟩ (.int .i64 (1 + (m0 : Int))) := ⟨_, rfl⟩
  have hs4 : w.heap.size + 3 ≤ w4.heap.size := by rw [hw4]; simpa using hz3
  have r04 := seto (b := w.heap.size + 1) r0 (by omega) (.int .i64 (1 + (m0 : Int)))
  have r14 := set1 r1 (.int .i64 (1 + (m0 : Int)))
  have r24 := seto (b := w.heap.size + 1) r2 (by omega) (.int .i64 (1 + (m0 : Int)))
  rw [← hw4] at r04 r14 r24
  have hb4 : Below w.heap.size w w4 := by rw [hw4]; exact hb3.setCell (by show w.heap.size ≤ w.heap.size + 1; omega) _
  obtain ⟨l0', l1', l2', l3', l4'⟩ := c5 r04
  rw [hw4] at l0' l1' l2' l3' l4'
  clear r0 r1 r2 hb3
  have hva4 := hide1 (hv.out.frame (w' := w4) (G := (· < w.heap.size)) (fun j _ hj => hb4.block j hj) (fun _ h _ => h))
  gi_wp2
  rw [← hw4]
  refine ⟨trivial, (callsIn_wide.2 (get_d (n := 299) (nm := nm) (hgt_mono (by omega) hgt0) (by omega) hva4.out)).mono ?_⟩
  rintro e w5 ⟨cg, rfl, hcg5, hcg1, hb5, hcg⟩
  obtain ⟨tg, htg⟩ : ∃ tg, Hid (tg = (getP kk p nm).getD tz) := ⟨_, hide1 rfl⟩
  have hgtg : hgt 299 tg := by rw [htg.out]; exact getP_hgt (ki := ki) (s := s) (l := l) hgt0 (by omega)
  have hvg : VA (fun _ => True) w5 tg cg.toList := by
    rw [htg.out]
    rcases hcg with ⟨t', e, hv'⟩ | ⟨e, rfl⟩
    · rw [e]; exact hv'.frame (fun _ _ _ => rfl) (fun _ _ _ => trivial)
    · rw [e]; exact zV_is
  clear hcg
  obtain ⟨g0, g1, g2, g3, g4, rfl⟩ := arr5 hcg5
  replace r04 := kp hb5 r04
  replace r14 := kp hb5 r14
  replace r24 := kp hb5 r24
  have hs5 := hb5.size
  replace hb5 := bl2 hb4 hb5
  clear hb4 l0 l1 l2 l3 l4 l0' l1' l2' l3' l4' d1 f1 hva4 hw4 d2 f2 hcg5
  obtain ⟨hr7, r36, hb6, hs6⟩ := lay5 (w := w5) (c := #[g0, g1, g2, g3, g4])
  have r06 := kp hb6 r04
  have r16 := kp hb6 r14
  have r26 := kp hb6 r24
  have hb6 := bl2 hb5 hb6
  have hvg6 : VA (fun _ => True) _ tg [g0, g1, g2, g3, g4] := hvg.frame (fun j _ hj => (lay5 (w := w5) (c := #[g0, g1, g2, g3, g4])).2.2.1.block j hj) (fun _ h _ => h)
  obtain ⟨l0, l1, l2, l3, l4⟩ := c5 r06
  have hva6 := hide1 (hv.out.frame (G := (· < w.heap.size)) (fun j _ hj => hb6.block j hj) (fun _ h _ => h))
  obtain ⟨og, hog⟩ : ∃ og, Hid (og = getP kk p nm) := ⟨_, hide1 rfl⟩
  rw [← hog.out]
  replace r06 := hide1 r06
  replace r16 := hide1 r16
  replace r26 := hide1 r26
  replace r36 := hide1 r36
  replace hvg6 := hide1 hvg6
  replace hb6 := hide1 hb6
  clear r04 r14 r24 hvg hb5
  gi_wp2_with (refine wpListIn_str rfl 28 (.tmp 7) (.tmp 29) rfl w5.heap.size #[g0, g1, g2, g3, g4] rfl rfl 28 _ hr7 (by kernel_rfl) rfl hcg1 ?_)
  generalize hw6 : (w5.alloc _).setRow _ _ = w6 at *
  clear hw6 hr7 l0 l1 l2 l3 l4 hcg1
  refine ⟨trivial, (callsIn_wide.2 (get_r (nm := nm) (F := (· < w.heap.size)) (hgt0.2.1) hva6.out)).mono ?_⟩
  rintro e w7 ⟨ch, rfl, hb7, hch⟩
  rw [← hog.out] at hch ⊢
  have hvh : VA (fun _ => True) w7 tg ch.toList := by
    rw [htg.out, ← hog.out]
    rcases hch with ⟨t', e, hv'⟩ | ⟨e, rfl⟩
    · rw [e]; exact hv'.frame (fun _ _ _ => rfl) (fun _ _ _ => trivial)
    · rw [e]; exact zV_is
  clear hch
  have hch5 : ch.size = 5 := by have := hvh.len; simpa using this
  have hch1 := hvh.one
  obtain ⟨u0, u1, u2, u3, u4, rfl⟩ := arr5 hch5
  have hvh : VA (fun _ => True) w7 tg [u0, u1, u2, u3, u4] := hvh
  have r07 := kp hb7 r06.out
  have r17 := kp hb7 r16.out
  have r27 := kp hb7 r26.out
  have r37 := kp hb7 r36.out
  have hvg7 : VA (fun _ => True) w7 tg [g0, g1, g2, g3, g4] := hvg6.out.frame (fun j _ hj => hb7.block j hj) (fun _ h _ => h)
  have hs7 := hb7.size
  replace hb7 := bl2 hb6.out hb7
  clear r06 r16 r26 r36 hvg6 hb6 hva6 hch5
  obtain ⟨hr7, r48, hb8, hs8⟩ := lay5 (w := w7) (c := #[u0, u1, u2, u3, u4])
  have r08 := hide1 (kp hb8 r07)
  have r18 := hide1 (kp hb8 r17)
  have r28 := hide1 (kp hb8 r27)
  have r38 := kp hb8 r37
  have hvg8 := hide1 (hvg7.frame (G := fun _ => True) (fun j _ hj => hb8.block j hj) (fun _ h _ => h))
  have hvh8 := hide1 (hvh.frame (G := fun _ => True) (fun j _ hj => hb8.block j hj) (fun _ h _ => h))
  replace hb8 := hide1 (bl2 hb7 hb8)
  obtain ⟨l0, l1, l2, l3, l4⟩ := c5 r38
  obtain ⟨k0, k1, k2, k3, k4⟩ := c5 r48
  replace r38 := hide1 r38
  replace r48 := hide1 r48
  clear r07 r17 r27 r37 hvg7 hvh hb7
  gi_wp2_with (refine wpListIn_str rfl 28 (.tmp 9) (.tmp 35) rfl w7.heap.size #[u0, u1, u2, u3, u4] rfl rfl 28 _ hr7 (by kernel_rfl) rfl (by simpa using hch1) ?_)
  generalize hw8 : (w7.alloc _).setRow _ _ = w8 at *
  refine ⟨trivial, (callsIn_wide.2 (ex_d 299 hgtg hvg8.out hvh8.out)).mono ?_⟩
  rintro e w9 ⟨rfl, hb9⟩
  have hex : exB 299 tg tg = true := (exB_eq (hgt_ht hgtg)).2 rfl
  rw [hex]
  have r09 := kp hb9 r08.out
  have r19 := kp hb9 r18.out
  have r29 := kp hb9 r28.out
  replace hb9 := bl2 hb8.out hb9
  clear hw8 hr7 r48 r38 l0 l1 l2 l3 l4 k0 k1 k2 k3 k4 hvg8 hvh8 hb8 r08 r18 r28 hex hch1
  obtain ⟨pa, pc, rfl⟩ : ∃ va vc, x4 = .slice va p.length vc := by
    rw [← e2]
    obtain ⟨_, ⟨a, cap, h1, h2⟩ | ⟨b, o, cap, cur, fz, h1, _⟩⟩ := q2.out
    · exact ⟨a, cap, by rw [h1, h2]; rfl⟩
    · exact ⟨_, cap, h1⟩
  replace e2 := hide1 e2
  obtain ⟨wa, hwa⟩ : ∃ wa, wa = (w9.alloc (.cells #[.int .i64 0] 3)).alloc (.cells #[.int .i64 0] 3) := ⟨_, rfl⟩
  have hs9 : w.heap.size + 3 ≤ w9.heap.size := by have := (Array.getElem?_eq_some_iff.1 r29).1; omega
  have hba : Below w9.heap.size w9 wa := by rw [hwa]; exact (below_one w9 _).alloc (by simp) _
  have hsa : wa.heap.size = w9.heap.size + 2 := by rw [hwa]; simp
  have hLa : Ln w w9.heap.size #[.int .i64 kk, .int .i64 ki, .string (st s), x3, .slice pa p.length pc] (1 + (m0 : Int)) 0 0 wa := by
    refine ⟨kp hba r09, kp hba r19, kp hba r29, ?_, ?_, bl2 hb9 hba⟩
    · rw [hwa]
      show ((w9.heap.push _).push _)[w9.heap.size]? = _
      rw [Array.getElem?_push, if_neg (by simp), Array.getElem?_push, if_pos rfl]
    · rw [hwa]
      show ((w9.heap.push _).push _)[w9.heap.size + 1]? = _
      rw [Array.getElem?_push, if_pos (by simp)]
  clear r09 r19 r29 hb9 hba
  obtain ⟨l0, l1, l2, l3, l4⟩ := c5 hLa.r0
  rw [hwa] at l0 l1 l2 l3 l4
  have hk5 := hno
  · have hva := hide1 (hv.out.frame (w' := wa) (G := (· < w.heap.size)) (fun j _ hj => hLa.bw.block j hj) (fun _ h _ => h))
    replace hLa := hide1 hLa
    gi_wp2
    rw [← hwa]
    refine ⟨trivial, (callsIn_wide.2 (names_d (n := 300) hgt0 (by omega) hva.out)).mono ?_⟩
    rintro e wn ⟨bx, cn, rfl, hbx, hcn5, hrx, hbn, hvn⟩
    have hLn := hLa.out.keep hbn
    have hsn := hbn.size
    have hsq := names_seq (n := 5) (m := 299) (G := fun j => wa.heap.size ≤ j ∧ j ≠ bx) (by omega) hrx hgt0 hvn
    unfold npr at hsq
    rw [if_neg hk5] at hsq
    have hxl := (Array.getElem?_eq_some_iff.1 hrx).1
    clear l0 l1 l2 l3 l4 hva hLa hwa hvn hrx
    gi_wp2
    refine range_z (n := 6) (w := wn) (gf := 33) (lb := #[.pointer (some ⟨bx, 0, none⟩)]) rfl (fun _ _ => by kernel_rfl) hsq (fun j hj => by rcases hj with hj | hj <;> omega)
      (fun k W' => k = 0 ∧ Ln w w9.heap.size #[.int .i64 kk, .int .i64 ki, .string (st s), x3, .slice pa p.length pc] (1 + (m0 : Int)) 0 0 W') (fun _ _ _ => False) ?hI ?hIx ⟨rfl, hLn⟩ ?round ?done ?stop
    case hI =>
      rintro k A B row ⟨e, hj⟩ hg hr
      exact ⟨e, hj.grown (B := wn.heap.size) hg (fun r e => (hr r e).1) (by omega) (by omega)⟩
    case hIx => rintro c k A B row hj; exact hj.elim
    case round => intro l' k hk; exact absurd hk (by omega)
    case stop => rintro D c k W' hD hk hj; exact hj.elim
    case done =>
      rintro D W' hD ⟨_, hj⟩ hK
      obtain ⟨d1, _⟩ := c1 hj.r1
      obtain ⟨d2, f2⟩ := c1 hj.r2
      obtain ⟨d5, _⟩ := c1 hj.r5
      obtain ⟨d6, _⟩ := c1 hj.r6
      have hmin : min (1 + (m0 : Int)) 0 = 0 := by omega
      have hDK := hide1 (seto (b := w.heap.size + 1 + 1) hK (by omega) (.bool true))
      have hrr := hide1 (set1 hj.r2 (.bool true))
      have hbb := hide1 (hj.bw.setCell (p := ⟨w.heap.size + 1 + 1, 0, none⟩) (by show w.heap.size ≤ w.heap.size + 1 + 1; omega) (.bool true))
      replace hj := hide1 hj
      gi_wp2
      refine ⟨by simp, .inl ⟨_, _, rfl, run_takeDeferred hDK.out, ?_⟩⟩
      exact ⟨_, results_b rfl _ rfl (c1 ((World.putObj_heap_other (by omega)).trans hrr.out)).1, rfl, blw_done hbb.out (by omega) hDK.out⟩
end Go.Proofs.YtpkncanbebpknaaGreatDoor

namespace Go.Proofs.YtpkncanbebpknaaGreatDoor
open Go.RowKit
section
variable {F : Fence} {n : Nat} {P : Program} {ops : Array Oper} {Q : Exit → Act → World → Prop}
theorem wpAnyIn_sym (hacyc : ∀ i o, ops[i]? = some o → ∀ e ∈ o.after, Region.binds .any e = true → e.on < i) (I : (Nat → Bool) → Act → World → Prop)
    (hstep : ∀ D a w, I D a w → ∀ i o, ops[i]? = some o → D i = false → (∀ e ∈ o.after, Region.binds .any e = true → D e.on = true) → ∀ K : Act → World → Prop,
      (∀ a' w', I (add1 D i) a' w' → K a' w') → Region.wanted o (yielded ops a.tmps) = true ∧ o.wpIn F n P a w K Q)
    (hend : ∀ D a w, I D a w → (∀ i, i < ops.size → D i = true) → Q .normal a w) :
    ∀ (fuel : Nat) (l : Array Bool) (a : Act) (w : World), l.size = ops.size → (l.toList.filter (!·)).length ≤ fuel → I (fun i => l.getD i false) a w → wpAnyIn F n P .any ops Q fuel l a w
  | 0, l, a, w, hsz, hf, hi => by
    have hr : Region.ready .any ops l = [] := by
      rw [List.eq_nil_iff_forall_not_mem]
      intro j hj
      obtain ⟨h1, o, ho, _⟩ := mem_ready.1 hj
      have hjl : j < l.size := by rw [hsz]; exact (Array.getElem?_eq_some_iff.1 ho).1
      have h2 : l.toList[j]? = some false := by simp [Array.getD, hjl] at h1 ⊢; exact h1
      have := left_set l.toList j h2
      omega
    exact ⟨hr, hend _ _ _ hi (all_listed hsz hacyc hr)⟩
  | fuel + 1, l, a, w, hsz, hf, hi => by
    refine ⟨fun hr => hend _ _ _ hi (all_listed hsz hacyc hr), fun j hj => ?_⟩
    obtain ⟨h1, o, ho, hdep⟩ := mem_ready.1 hj
    have hjl : j < l.size := by rw [hsz]; exact (Array.getElem?_eq_some_iff.1 ho).1
    have h2 : l.toList[j]? = some false := by simp [Array.getD, hjl] at h1 ⊢; exact h1
    have h3 : l.getD j false = false := by simp [Array.getD, hjl] at h1 ⊢; exact h1
    have h4 := left_set l.toList j h2
    have hk := hstep _ a w hi j o ho h3 hdep (wpAnyIn F n P .any ops Q fuel (l.setIfInBounds j true)) (fun a' w' h => by
      refine wpAnyIn_sym hacyc I hstep hend fuel (l.setIfInBounds j true) a' w' (by simp [hsz]) (by simp; omega) ?_
      have e : (fun i => (l.setIfInBounds j true).getD i false) = add1 (fun i => l.getD i false) j := by
        funext i
        unfold add1
        by_cases h : i = j
        · subst h; simp [Array.getD, hjl]
        · have h' : ¬ j = i := fun x => h x.symm
          by_cases hil : i < l.size
          · simp [Array.getD, hil, h, h']
          · simp [Array.getD, hil, h]
      rw [e]; exact h)
    unfold wpOpIn
    simp only [ho]
    simp only [hk.1, if_true]
    exact hk.2

/-- A region that draws, by an invariant. -/
theorem wpIn_inv {l : List Oper} {id : Nat} (a0 : Act) (w0 : World) (hm : P.follows .mixedOrders = true) (hac : acycB l.toArray = true) (hg : l.all (fun o => o.guard.isNone) = true) (I : (Nat → Bool) → Act → World → Prop) (h0 : I (fun _ => false) a0 w0.drew)
    (hstep : ∀ D a w, I D a w → ∀ i o, l[i]? = some o → D i = false → (∀ e ∈ o.after, Region.binds .any e = true → D e.on = true) → ∀ K : Act → World → Prop, (∀ a' w', I (add1 D i) a' w' → K a' w') → o.wpIn F n P a w K Q)
    (hend : ∀ D a w, I D a w → (∀ i, i < l.length → D i = true) → Q .normal a w) : (Code.region id l.toArray true).wpIn F n P Q a0 w0 := by
  have hacyc := acyc_of (ops := l.toArray) hac
  refine wpIn_region_any hm (wpAnyIn_sym hacyc I (fun D a w hI i o ho hD hdep K hK => ⟨?_, hstep D a w hI i o (by simpa using ho) hD hdep K hK⟩) (fun D a w hI hall => hend D a w hI (fun i hi => hall i (by simpa using hi))) _ _ _ _ (by simp) ?_ ?_)
  · have : o.guard = none := by
      have := List.all_eq_true.1 hg o (List.mem_of_getElem? (by simpa using ho : l[i]? = some o))
      simpa using this
    unfold Region.wanted
    rw [this]
  · exact Nat.le_trans (List.length_filter_le _ _) (by simp)
  · have e : (fun i => (Array.replicate l.toArray.size false).getD i false) = fun _ => false := by
      funext i
      by_cases h : i < l.toArray.size <;> simp [Array.getD]
    exact e ▸ h0
theorem wpIn_flow {l : List Oper} {id : Nat} (fin : Nat) (a0 : Act) (w0 : World) (hm : P.follows .mixedOrders = true) (hac : acycB l.toArray = true) (hg : l.all (fun o => o.guard.isNone) = true) (hfin : finB l fin a0.tmps.size = true) {f : Oper} (hf : l[fin]? = some f)
    (Rr : Nat → Value → World → Prop) (hmono : ∀ i v w w', Rr i v w → Below w.heap.size w w' → Rr i v w')
    (hop : ∀ i o, l[i]? = some o → i ≠ fin → ∀ a w, Below w0.heap.size w0 w → (∀ t, wrB l t = false → a.tmps.getD t undef = a0.tmps.getD t undef) → (∀ j oj d, l[j]? = some oj → oj.dst = some d → (∃ e ∈ o.after, Region.binds .any e = true ∧ e.on = j) → Rr j (a.tmps.getD d undef) w) →
      ∀ K : Act → World → Prop, (∀ v w', Below w.heap.size w w' → Rr i v w' → K (a.put o.dst v) w') → o.wpIn F n P a w K Q)
    (hlast : ∀ a w, Below w0.heap.size w0 w → a.defers = a0.defers → a.tmps.size = a0.tmps.size → (∀ t, wrB l t = false → a.tmps.getD t undef = a0.tmps.getD t undef) → (∀ j oj d, l[j]? = some oj → j ≠ fin → oj.dst = some d → Rr j (a.tmps.getD d undef) w) →
      ∀ K : Act → World → Prop, (∀ a' w', Q .normal a' w' → K a' w') → f.wpIn F n P a w K Q) : (Code.region id l.toArray true).wpIn F n P Q a0 w0 := by
  refine wpIn_inv a0 w0 hm hac hg (fun D a w => ((∀ j, j < l.length → D j = true) ∧ Q .normal a w) ∨ (D fin = false ∧ a.defers = a0.defers ∧ a.tmps.size = a0.tmps.size ∧ Below w0.heap.size w0 w ∧ (∀ t, wrB l t = false → a.tmps.getD t undef = a0.tmps.getD t undef) ∧ (∀ j oj, l[j]? = some oj → D j = true → ∀ e ∈ oj.after, Region.binds .any e = true → D e.on = true) ∧ ∀ j oj d, l[j]? = some oj → D j = true → oj.dst = some d → Rr j (a.tmps.getD d undef) w)) ?_ ?_ ?_
  · exact .inr ⟨rfl, rfl, rfl, (Below.refl _ _).drew, fun _ _ => rfl, (fun _ _ _ h => absurd h (by simp)), (fun _ _ _ _ h => absurd h (by simp))⟩
  · intro D a w hI i o ho hD hdep K hK
    rcases hI with ⟨h1, _⟩ | ⟨h1, hdf, hsz, hb, hsl, hcl, hr⟩
    · rw [h1 i (List.getElem?_eq_some_iff.1 ho).1] at hD; cases hD
    · by_cases hi : i = fin
      · subst hi
        rw [hf] at ho
        cases ho
        refine hlast a w hb hdf hsz hsl (fun j oj d hj hne hd => hr j oj d hj ?_ hd) K (fun a' w' hq => hK a' w' (.inl ⟨fun j hj => ?_, hq⟩))
        · obtain ⟨⟨e, he, h3, h4 | ⟨oj2, h5, e2, he2, h6, h7⟩⟩, _⟩ := finB_at hfin hj hf hne
          · rw [← h4]; exact hdep e he h3
          · rw [← h7]; exact hcl e.on oj2 h5 (hdep e he h3) e2 he2 h6
        · by_cases hji : j = i
          · rw [hji]; exact add1_eq
          · rw [add1_ne hji]
            obtain ⟨⟨e, he, h3, h4 | ⟨oj2, h5, e2, he2, h6, h7⟩⟩, _⟩ := finB_at hfin (List.getElem?_eq_getElem hj) hf hji
            · rw [← h4]; exact hdep e he h3
            · rw [← h7]; exact hcl e.on oj2 h5 (hdep e he h3) e2 he2 h6
      · obtain ⟨_, d, hd, hdn, hap⟩ := finB_at hfin ho hf hi
        have hds : d < a.tmps.size := by rw [hsz]; exact hdn
        refine hop i o ho hi a w hb hsl (fun j oj d' hj hd' ⟨e, he, h3, h4⟩ => hr j oj d' hj (by rw [← h4]; exact hdep e he h3) hd') K (fun v w' hb' hR => hK _ _ (.inr ⟨?_, ?_, ?_, ?_, ?_, ?_, ?_⟩))
        · rw [add1_ne (fun e => hi e.symm)]; exact h1
        · rw [put_df]; exact hdf
        · rw [put_sz]; exact hsz
        · exact hb.trans (hb'.mono hb.size)
        · intro t ht
          rw [hd, put_of hds (fun e => by
            subst e
            have : wrB l t = true := List.any_eq_true.2 ⟨o, List.mem_of_getElem? ho, by simp [hd]⟩
            rw [this] at ht; cases ht)]
          exact hsl t ht
        · intro j oj hj hDj e he h3
          by_cases hji : j = i
          · subst hji
            rw [ho] at hj
            cases hj
            exact add1_mono (hdep e he h3)
          · rw [add1_ne hji] at hDj
            exact add1_mono (hcl j oj hj hDj e he h3)
        · intro j oj d' hj hDj hd'
          by_cases hji : j = i
          · subst hji
            rw [ho] at hj
            cases hj
            rw [hd] at hd'
            cases hd'
            rw [hd, put_at hds]
            exact hR
          · rw [add1_ne hji] at hDj
            rw [hd, put_of hds (fun e => hap j oj hj hji (by rw [hd', e]))]
            exact hmono _ _ _ _ (hr j oj d' hj hDj hd') hb'
  · intro D a w hI hall
    rcases hI with ⟨_, h⟩ | ⟨h1, _⟩
    · exact h
    · rw [hall fin (List.getElem?_eq_some_iff.1 hf).1] at h1; cases h1
end
end Go.Proofs.YtpkncanbebpknaaGreatDoor

namespace Go.Proofs.YtpkncanbebpknaaGreatDoor
open Go.RowKit
section
variable {F : Fence} {n : Nat} {P : Program} {ops : Array Oper} {Q : Exit → Act → World → Prop}
theorem wpAnyIn_symG (hF : ∀ f, F.fn f) (hacyc : ∀ i o, ops[i]? = some o → ∀ e ∈ o.after, Region.binds .any e = true → e.on < i) (I : (Nat → Bool) → Act → World → Prop)
    (hstep : ∀ D a w, I D a w → ∀ i o, ops[i]? = some o → D i = false → (∀ e ∈ o.after, Region.binds .any e = true → D e.on = true) → ∀ K : Act → World → Prop,
      (∀ a' w', I (add1 D i) a' w' → K a' w') → (Region.wanted o (yielded ops a.tmps) = true ∧ o.wpIn F n P a w K Q) ∨ (Region.wanted o (yielded ops a.tmps) = false ∧ K (a.put o.dst undef) w))
    (hend : ∀ D a w, I D a w → (∀ i, i < ops.size → D i = true) → Q .normal a w) :
    ∀ (fuel : Nat) (l : Array Bool) (a : Act) (w : World), l.size = ops.size → (l.toList.filter (!·)).length ≤ fuel → I (fun i => l.getD i false) a w → wpAnyIn F n P .any ops Q fuel l a w
  | 0, l, a, w, hsz, hf, hi => by
    have hr : Region.ready .any ops l = [] := by
      rw [List.eq_nil_iff_forall_not_mem]
      intro j hj
      obtain ⟨h1, o, ho, _⟩ := mem_ready.1 hj
      have hjl : j < l.size := by rw [hsz]; exact (Array.getElem?_eq_some_iff.1 ho).1
      have h2 : l.toList[j]? = some false := by simp [Array.getD, hjl] at h1 ⊢; exact h1
      have := left_set l.toList j h2
      omega
    exact ⟨hr, hend _ _ _ hi (all_listed hsz hacyc hr)⟩
  | fuel + 1, l, a, w, hsz, hf, hi => by
    refine ⟨fun hr => hend _ _ _ hi (all_listed hsz hacyc hr), fun j hj => ?_⟩
    obtain ⟨h1, o, ho, hdep⟩ := mem_ready.1 hj
    have hjl : j < l.size := by rw [hsz]; exact (Array.getElem?_eq_some_iff.1 ho).1
    have h2 : l.toList[j]? = some false := by simp [Array.getD, hjl] at h1 ⊢; exact h1
    have h3 : l.getD j false = false := by simp [Array.getD, hjl] at h1 ⊢; exact h1
    have h4 := left_set l.toList j h2
    have hk := hstep _ a w hi j o ho h3 hdep (wpAnyIn F n P .any ops Q fuel (l.setIfInBounds j true)) (fun a' w' h => by
      refine wpAnyIn_symG hF hacyc I hstep hend fuel (l.setIfInBounds j true) a' w' (by simp [hsz]) (by simp; omega) ?_
      have e : (fun i => (l.setIfInBounds j true).getD i false) = add1 (fun i => l.getD i false) j := by
        funext i
        unfold add1
        by_cases h : i = j
        · subst h; simp [Array.getD, hjl]
        · have h' : ¬ j = i := fun x => h x.symm
          by_cases hil : i < l.size
          · simp [Array.getD, hil, h, h']
          · simp [Array.getD, hil, h]
      rw [e]; exact h)
    unfold wpOpIn
    simp only [ho]
    rcases hk with ⟨h5, h6⟩ | ⟨h5, h6⟩
    · simp only [h5, if_true]
      exact h6
    · simp only [h5, Bool.false_eq_true, if_false]
      exact ⟨fun f _ => hF f, h6⟩

/-- An operation's step, wanted or not. -/
def OpI (F : Fence) (n : Nat) (P : Program) (l : List Oper) (Q : Exit → Act → World → Prop) (o : Oper) (a : Act) (w : World) (K : Act → World → Prop) : Prop :=
  (Region.wanted o (yielded l.toArray a.tmps) = true ∧ o.wpIn F n P a w K Q) ∨ (Region.wanted o (yielded l.toArray a.tmps) = false ∧ K (a.put o.dst undef) w)
theorem OpI.plain {l : List Oper} {o : Oper} {a : Act} {w : World} {K : Act → World → Prop} (hg : o.guard = none) (h : o.wpIn F n P a w K Q) : OpI F n P l Q o a w K := .inl ⟨by unfold Region.wanted; rw [hg], h⟩
theorem OpI.want {l : List Oper} {o : Oper} {a : Act} {w : World} {K : Act → World → Prop} {j d : Nat} {b : Bool} (hg : o.guard = some (j, b)) (hd : (l[j]?).bind (·.dst) = some d) (hs : d < a.tmps.size) (hv : a.tmps.getD d undef = .bool b) (h : o.wpIn F n P a w K Q) : OpI F n P l Q o a w K := by
  refine .inl ⟨?_, h⟩
  have ht : a.tmps[d]? = some (.bool b) := by
    rw [Array.getElem?_eq_getElem hs]
    simpa [Array.getD, hs] using hv
  unfold Region.wanted yielded
  rw [hg]
  simp [hd, ht]
theorem OpI.skip {l : List Oper} {o : Oper} {a : Act} {w : World} {K : Act → World → Prop} {j d : Nat} {b : Bool} (hg : o.guard = some (j, b)) (hd : (l[j]?).bind (·.dst) = some d) (hs : d < a.tmps.size) (hv : a.tmps.getD d undef = .bool (!b)) (h : K (a.put o.dst undef) w) : OpI F n P l Q o a w K := by
  refine .inr ⟨?_, h⟩
  have ht : a.tmps[d]? = some (.bool (!b)) := by
    rw [Array.getElem?_eq_getElem hs]
    simpa [Array.getD, hs] using hv
  unfold Region.wanted yielded
  rw [hg]
  cases b <;> simp [hd, ht]
theorem wpIn_flowG {l : List Oper} {id : Nat} (hF : ∀ f, F.fn f) (fin : Nat) (a0 : Act) (w0 : World) (hm : P.follows .mixedOrders = true) (hac : acycB l.toArray = true) (hfin : finC l fin a0.tmps.size = true) {f : Oper} (hf : l[fin]? = some f)
    (Rr : Nat → Value → World → Prop) (hmono : ∀ i v w w', Rr i v w → Below w.heap.size w w' → Rr i v w')
    (hop : ∀ i o, l[i]? = some o → i ≠ fin → ∀ a w, Below w0.heap.size w0 w → a.tmps.size = a0.tmps.size → (∀ t, wrB l t = false → a.tmps.getD t undef = a0.tmps.getD t undef) → (∀ j oj d, l[j]? = some oj → oj.dst = some d → (∃ e ∈ o.after, Region.binds .any e = true ∧ e.on = j) → Rr j (a.tmps.getD d undef) w) →
      ∀ K : Act → World → Prop, (∀ v w', Below w.heap.size w w' → Rr i v w' → K (a.put o.dst v) w') → OpI F n P l Q o a w K)
    (hlast : ∀ a w, Below w0.heap.size w0 w → a.defers = a0.defers → a.tmps.size = a0.tmps.size → (∀ t, wrB l t = false → a.tmps.getD t undef = a0.tmps.getD t undef) → (∀ j oj d, l[j]? = some oj → j ≠ fin → oj.dst = some d → Rr j (a.tmps.getD d undef) w) →
      ∀ K : Act → World → Prop, (∀ a' w', Q .normal a' w' → K a' w') → OpI F n P l Q f a w K) : (Code.region id l.toArray true).wpIn F n P Q a0 w0 := by
  have hacyc := acyc_of (ops := l.toArray) hac
  refine wpIn_region_any hm (wpAnyIn_symG hF hacyc (fun D a w => ((∀ j, j < l.length → D j = true) ∧ Q .normal a w) ∨ (D fin = false ∧ a.defers = a0.defers ∧ a.tmps.size = a0.tmps.size ∧ Below w0.heap.size w0 w ∧ (∀ t, wrB l t = false → a.tmps.getD t undef = a0.tmps.getD t undef) ∧ (∀ j oj, l[j]? = some oj → D j = true → ∀ e ∈ oj.after, Region.binds .any e = true → D e.on = true) ∧ ∀ j oj d, l[j]? = some oj → D j = true → oj.dst = some d → Rr j (a.tmps.getD d undef) w)) ?_ ?_ _ _ _ _ (by simp) ?_ ?_)
  · intro D a w hI i o ho hD hdep K hK
    have ho : l[i]? = some o := by simpa using ho
    rcases hI with ⟨h1, _⟩ | ⟨h1, hdf, hsz, hb, hsl, hcl, hr⟩
    · rw [h1 i (List.getElem?_eq_some_iff.1 ho).1] at hD; cases hD
    · by_cases hi : i = fin
      · subst hi
        rw [hf] at ho
        cases ho
        have hall : ∀ j, j < l.length → j ≠ i → D j = true := fun j hj hne => by
          obtain ⟨h3, _⟩ := finC_at hfin (List.getElem?_eq_getElem hj) hne
          cases hk : l.length with
          | zero => omega
          | succ k =>
            rw [hk] at h3
            unfold rch at h3
            rw [hf] at h3
            obtain ⟨e, he, h4⟩ := Array.any_eq_true'.1 h3
            simp only [Bool.and_eq_true, Bool.or_eq_true, beq_iff_eq] at h4
            rcases h4.2 with h5 | h5
            · rw [← h5]; exact hdep e he h4.1
            · exact rch_of hcl k e.on j h5 (hdep e he h4.1)
        refine hlast a w hb hdf hsz hsl (fun j oj d hj hne hd => hr j oj d hj (hall j (List.getElem?_eq_some_iff.1 hj).1 hne) hd) K (fun a' w' hq => hK a' w' (.inl ⟨fun j hj => ?_, hq⟩))
        by_cases hji : j = i
        · rw [hji]; exact add1_eq
        · rw [add1_ne hji]; exact hall j hj hji
      · obtain ⟨_, d, hd, hdn, hap⟩ := finC_at hfin ho hi
        have hds : d < a.tmps.size := by rw [hsz]; exact hdn
        refine hop i o ho hi a w hb hsz hsl (fun j oj d' hj hd' ⟨e, he, h3, h4⟩ => hr j oj d' hj (by rw [← h4]; exact hdep e he h3) hd') K (fun v w' hb' hR => hK _ _ (.inr ⟨?_, ?_, ?_, ?_, ?_, ?_, ?_⟩))
        · rw [add1_ne (fun e => hi e.symm)]; exact h1
        · rw [put_df]; exact hdf
        · rw [put_sz]; exact hsz
        · exact hb.trans (hb'.mono hb.size)
        · intro t ht
          rw [hd, put_of hds (fun e => by
            subst e
            have : wrB l t = true := List.any_eq_true.2 ⟨o, List.mem_of_getElem? ho, by simp [hd]⟩
            rw [this] at ht; cases ht)]
          exact hsl t ht
        · intro j oj hj hDj e he h3
          by_cases hji : j = i
          · subst hji
            rw [ho] at hj
            cases hj
            exact add1_mono (hdep e he h3)
          · rw [add1_ne hji] at hDj
            exact add1_mono (hcl j oj hj hDj e he h3)
        · intro j oj d' hj hDj hd'
          by_cases hji : j = i
          · subst hji
            rw [ho] at hj
            cases hj
            rw [hd] at hd'
            cases hd'
            rw [hd, put_at hds]
            exact hR
          · rw [add1_ne hji] at hDj
            rw [hd, put_of hds (fun e => hap j oj hj hji (by rw [hd', e]))]
            exact hmono _ _ _ _ (hr j oj d' hj hDj hd') hb'
  · intro D a w hI hall
    rcases hI with ⟨_, h⟩ | ⟨h1, _⟩
    · exact h
    · rw [hall fin (by simpa using (List.getElem?_eq_some_iff.1 hf).1)] at h1; cases h1
  · exact Nat.le_trans (List.length_filter_le _ _) (by simp)
  · have e : (fun i => (Array.replicate l.toArray.size false).getD i false) = fun _ => false := by
      funext i
      by_cases h : i < l.toArray.size <;> simp [Array.getD]
    rw [e]
    exact .inr ⟨rfl, rfl, rfl, (Below.refl _ _).drew, fun _ _ => rfl, (fun _ _ _ h => absurd h (by simp)), (fun _ _ _ _ h => absurd h (by simp))⟩
end
end Go.Proofs.YtpkncanbebpknaaGreatDoor

namespace Go.Proofs.YtpkncanbebpknaaGreatDoor
open Go.RowKit
section
variable {F : Fence} {n : Nat} {P : Program} {Q : Exit → Act → World → Prop}
theorem wpIn_val {o : Oper} {a : Act} {w w' : World} {K : Act → World → Prop} {v : Value} (hF : ∀ f, F.fn f) (hd : ∀ c, o.op ≠ .defer c) (h : (execOp a.eval o).run P w = .ok (.value v) w') (hk : K (a.put o.dst v) w') : o.wpIn F n P a w K Q := by
  unfold Oper.wpIn
  refine ⟨fun f _ => hF f, ?_⟩
  rw [Oper.semAt_plain F _ _ hd, h]
  exact hk
theorem operIn_any {o : Oper} {a : Act} {w : World} {K : Act → World → Prop} (hF : ∀ f, F.fn f) (f : FuncId) (xs : Array Operand) (tys : Array TypeId) (ho : o.op = .call { callee := .value (.func f), args := xs, argTypes := tys }) (vs : Array Value) (hv : xs.map a.eval = vs) (he : ∀ w, (callFunc f vs).run P w = .ok (.enter f vs) w) (hn : F.depth.isSome = true → 1 ≤ n) {J : Value → World → Prop}
    (hc : CallsIn F (n - 1) P f vs w fun e w' => ∃ r, e = .returned r ∧ J r w') (h : ∀ r w', J r w' → K (a.put o.dst r) w') : o.wpIn F n P a w K Q := by
  have hev : a.eval (.func f) = .func (.func f) #[] #[] := rfl
  unfold Oper.wpIn
  refine ⟨fun f _ => hF f, ?_⟩
  rw [Oper.semAt_plain F _ _ (by rw [ho]; intro c hc'; cases hc')]
  unfold execOp
  simp only [ho, resolve, invoke, Sem.run_bind, hv, hev, Deferred.ofValue, Sem.run_pure, Result.andThen_ok, Array.append_empty, Array.empty_append, he, Oper.uponIn_enter]
  exact ⟨hn, hc.mono (by rintro e w' ⟨r, rfl, hJ⟩; exact h r w' hJ)⟩
end
end Go.Proofs.YtpkncanbebpknaaGreatDoor

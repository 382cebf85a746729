/- JM, JN, JO, JV, JSv, KC1, KC2, KC3, KC4: laid together. -/
import Derived.WalkKit
import Derived.ProofKit
import Derived.OpenShut
import Derived.ChangeOld
import Derived.Below
import Derived.Deep.Slices
import Derived.Test.YtkkgcbaofdejjaaGreatDoorProg
import Derived.Shelf.Unicode.ValidAny
import Derived.Test.YtkkgcbaofdejjaaGreatDoorG3
namespace Go.Proofs.YtkkgcbaofdejjaaGreatDoor
open Go.RowKit

def exL (f : T → T → Bool) : List T → List T → Bool
  | a :: r, b :: q => f a b && exL f r q
  | _, _ => true
def exP (f : T → T → Bool) : List (List UInt8 × T) → List (List UInt8 × T) → Bool
  | a :: r, b :: q => decide (a.1 = b.1) && (f a.2 b.2 && exP f r q)
  | _, _ => true
def exB : Nat → T → T → Bool
  | 0, _, _ => false
  | h + 1, .mk k i s l p, .mk k' i' s' l' p' => decide (k = k') && (decide (i = i') && (decide (s = s') && (decide (l.length = l'.length) && (decide (p.length = p'.length) && (exL (exB h) l l' && exP (exB h) p p')))))
theorem exL_drop {f : T → T → Bool} {l l' : List T} {i : Nat} {a b : T} (ha : l[i]? = some a) (hb : l'[i]? = some b) : exL f (l.drop i) (l'.drop i) = (f a b && exL f (l.drop (i + 1)) (l'.drop (i + 1))) := by
  obtain ⟨h1, e1⟩ := List.getElem?_eq_some_iff.1 ha
  obtain ⟨h2, e2⟩ := List.getElem?_eq_some_iff.1 hb
  rw [List.drop_eq_getElem_cons h1, List.drop_eq_getElem_cons h2, e1, e2]; rfl
theorem exP_drop {f : T → T → Bool} {l l' : List (List UInt8 × T)} {i : Nat} {a b : List UInt8 × T} (ha : l[i]? = some a) (hb : l'[i]? = some b) : exP f (l.drop i) (l'.drop i) = (decide (a.1 = b.1) && (f a.2 b.2 && exP f (l.drop (i + 1)) (l'.drop (i + 1)))) := by
  obtain ⟨h1, e1⟩ := List.getElem?_eq_some_iff.1 ha
  obtain ⟨h2, e2⟩ := List.getElem?_eq_some_iff.1 hb
  rw [List.drop_eq_getElem_cons h1, List.drop_eq_getElem_cons h2, e1, e2]; rfl
theorem exL_eq {f : T → T → Bool} : ∀ {l l' : List T}, (∀ a ∈ l, ∀ b, f a b = true ↔ a = b) → l.length = l'.length → (exL f l l' = true ↔ l = l')
  | [], [], _, _ => by simp [exL]
  | [], _ :: _, _, h => by simp at h
  | _ :: _, [], _, h => by simp at h
  | a :: r, b :: q, hf, h => by
    rw [exL, Bool.and_eq_true, hf a (by simp), exL_eq (fun x hx => hf x (by simp [hx])) (by simpa using h)]
    simp
theorem exP_eq {f : T → T → Bool} : ∀ {l l' : List (List UInt8 × T)}, (∀ a ∈ l, ∀ b, f a.2 b = true ↔ a.2 = b) → l.length = l'.length → (exP f l l' = true ↔ l = l')
  | [], [], _, _ => by simp [exP]
  | [], _ :: _, _, h => by simp at h
  | _ :: _, [], _, h => by simp at h
  | a :: r, b :: q, hf, h => by
    rw [exP, Bool.and_eq_true, Bool.and_eq_true, decide_eq_true_eq, hf a (by simp), exP_eq (fun x hx => hf x (by simp [hx])) (by simpa using h)]
    obtain ⟨a1, a2⟩ := a
    obtain ⟨b1, b2⟩ := b
    simp [and_assoc]
theorem exB_eq : ∀ {h : Nat} {a b : T}, ht h a → (exB h a b = true ↔ a = b)
  | 0, _, _, h => h.elim
  | h + 1, .mk k i s l p, .mk k' i' s' l' p', ha => by
    unfold exB
    simp only [Bool.and_eq_true, decide_eq_true_eq, T.mk.injEq]
    constructor
    · rintro ⟨h1, h2, h3, h4, h5, h6, h7⟩
      exact ⟨h1, h2, h3, (exL_eq (fun a hm b => exB_eq (ha.1 a hm)) h4).1 h6, (exP_eq (fun a hm b => exB_eq (ha.2 a hm)) h5).1 h7⟩
    · rintro ⟨h1, h2, h3, rfl, rfl⟩
      exact ⟨h1, h2, h3, rfl, rfl, (exL_eq (fun a hm b => exB_eq (ha.1 a hm)) rfl).2 rfl, (exP_eq (fun a hm b => exB_eq (ha.2 a hm)) rfl).2 rfl⟩
theorem ix_oV {g o K cap k : Nat} (hk : k < K) (w : World) : (Instr.indexAt 25 (.slice (some ⟨g, o, none⟩) K cap) (.int .i64 ((k : Nat) : Int))).run Tryz.prog w = .ok (.pointer (some ⟨g, o + k * 5, none⟩)) w := by
  simp [Instr.indexAt, go_sem, hk]
theorem ix_oP {g o K cap k : Nat} (hk : k < K) (w : World) : (Instr.indexAt 26 (.slice (some ⟨g, o, none⟩) K cap) (.int .i64 ((k : Nat) : Int))).run Tryz.prog w = .ok (.pointer (some ⟨g, o + k * 6, none⟩)) w := by
  simp [Instr.indexAt, go_sem, hk]
theorem ld_mV {w : World} {b o : Nat} {x0 x1 x2 x3 x4 : Value} (hr : w.rangeAt b o [x0, x1, x2, x3, x4]) : (Instr.loadAt 28 (.pointer (some ⟨b, o, none⟩))).run Tryz.prog w = .ok (.agg #[x0, x1, x2, x3, x4]) w := by
  have hl := run_loadVar_mid (P := Tryz.prog) w b o 28 [x0, x1, x2, x3, x4] _ hr Tryz.underlying28 rfl (by kernel_rfl)
  simp only [Instr.loadAt, Instr.sureAddr, Sem.run_bind, Sem.run_pure, Result.andThen_ok, hl]
theorem ld_s0 {w : World} {b o : Nat} {v : Value} (h1 : w.cell? ⟨b, o, none⟩ = some v) : (Instr.loadAt 9 (.pointer (some ⟨b, o, none⟩))).run Tryz.prog w = .ok v w := by
  simp [Instr.loadAt, Instr.sureAddr, go_sem, h1]
theorem nq_s {s s' : List UInt8} (w : World) : (binOp .neq 9 (.string (st s)) (.string (st s'))).run Tryz.prog w = .ok (.bool (!decide (s = s'))) w := by
  have h := st_eq s s'
  simp [binOp, go_sem, Op.stringOp, ← h]
theorem eg_s {a b : Operand} {s s' : List UInt8} (w : World) : (eqGuard .neq 9 a b (.string (st s)) (.string (st s'))).run Tryz.prog w = .ok () w := by
  simp [eqGuard, go_sem]
/-- What the operations of '!Exact(a.List[i], b.List[i])' answer. -/
def R6 (q2 q3 i : Nat) (v v' : Value) (p1 p2 : Value) (C C' : Array Value) (r : Bool) : Nat → Value → World → Prop
  | 0, v, _ => v = .pointer (some ⟨q2, 3, none⟩)
  | 1, x, _ => x = v
  | 2, v, _ => v = .int .i64 (i : Nat)
  | 3, v, _ => v = p1
  | 4, v, _ => v = .agg C
  | 5, v, _ => v = .pointer (some ⟨q3, 3, none⟩)
  | 6, x, _ => x = v'
  | 7, v, _ => v = .int .i64 (i : Nat)
  | 8, v, _ => v = p2
  | 9, v, _ => v = .agg C'
  | 10, v, _ => v = .bool r
  | _, _, _ => True
theorem R6_mono {q2 q3 i : Nat} {v v' p1 p2 : Value} {C C' : Array Value} {r : Bool} (j : Nat) (x : Value) (w w' : World) (h : R6 q2 q3 i v v' p1 p2 C C' r j x w) (_ : Below w.heap.size w w') : R6 q2 q3 i v v' p1 p2 C C' r j x w' := by
  match j, h with
  | 0, h | 1, h | 2, h | 3, h | 4, h | 5, h | 6, h | 7, h | 8, h | 9, h | 10, h => exact h
  | _ + 11, h => trivial
theorem hgt_ht : ∀ {n : Nat} {t : T}, hgt n t → ht n t
  | 0, _, h => h
  | _ + 1, .mk _ _ _ _ _, h => ⟨fun t ht' => hgt_ht (h.2.2.1 t ht'), fun q hq => hgt_ht (h.2.2.2 q hq)⟩
/-- Exact answers so, so high. -/
def Eok (h : Nat) : Prop := ∀ {F G : Nat → Prop} {w : World} {t t' : T} {c c' : List Value}, hgt h t → VA F w t c → VA G w t' c' → Calls Tryz.prog 12 #[.agg c.toArray, .agg c'.toArray] w fun e w' => e = .returned (.bool (exB h t t')) ∧ Below w.heap.size w w'
set_option maxHeartbeats 4000000 in
set_option maxRecDepth 100000 in
theorem ex_s {h : Nat} (ih : Eok h) : Eok (h + 1) := by
  intro F G w t t' c c' hh hv hv'
  cases hv with
  | @mk k ki s l p sl sp cl cp r1 r2 e1 e2 hl hp1 hp2 =>
  cases hv' with
  | @mk k' ki' s' l' p' sl' sp' cl' cp' r1' r2' e1' e2' hl' hp1' hp2' =>
    obtain ⟨b1, b2, hh1, hh2⟩ := hh
    obtain ⟨sa, sc, rfl⟩ : ∃ va vc, sl = .slice va cl.length vc := by
      obtain ⟨_, ⟨a, cap, h1, h2⟩ | ⟨b, o, cap, cur, fz, h1, _⟩⟩ := r1
      · exact ⟨a, cap, by rw [h1, h2]; rfl⟩
      · exact ⟨_, cap, h1⟩
    obtain ⟨pa, pc, rfl⟩ : ∃ va vc, sp = .slice va cp.length vc := by
      obtain ⟨_, ⟨a, cap, h1, h2⟩ | ⟨b, o, cap, cur, fz, h1, _⟩⟩ := r2
      · exact ⟨a, cap, by rw [h1, h2]; rfl⟩
      · exact ⟨_, cap, h1⟩
    obtain ⟨sa', sc', rfl⟩ : ∃ va vc, sl' = .slice va cl'.length vc := by
      obtain ⟨_, ⟨a, cap, h1, h2⟩ | ⟨b, o, cap, cur, fz, h1, _⟩⟩ := r1'
      · exact ⟨a, cap, by rw [h1, h2]; rfl⟩
      · exact ⟨_, cap, h1⟩
    obtain ⟨pa', pc', rfl⟩ : ∃ va vc, sp' = .slice va cp'.length vc := by
      obtain ⟨_, ⟨a, cap, h1, h2⟩ | ⟨b, o, cap, cur, fz, h1, _⟩⟩ := r2'
      · exact ⟨a, cap, by rw [h1, h2]; rfl⟩
      · exact ⟨_, cap, h1⟩
    obtain ⟨wb, hwb⟩ : ∃ wb, wb = (w.alloc (.cells #[.int .i64 k, .int .i64 ki, .string (st s), .slice sa cl.length sc, .slice pa cp.length pc] 28)).alloc (.cells #[.int .i64 k', .int .i64 ki', .string (st s'), .slice sa' cl'.length sc', .slice pa' cp'.length pc'] 28) := ⟨_, rfl⟩
    have hb0 : Below w.heap.size w wb := by rw [hwb]; exact blw_al ((Below.refl _ _).alloc (Nat.le_refl _) _) (by simp) _
    have hbx : wb.heap[w.heap.size]? = some (.cells #[.int .i64 k, .int .i64 ki, .string (st s), .slice sa cl.length sc, .slice pa cp.length pc] 28 (0, 0)) := by
      rw [hwb]
      show ((w.heap.push _).push _)[w.heap.size]? = _
      rw [Array.getElem?_push, if_neg (by simp), Array.getElem?_push, if_pos rfl]
    have hby : wb.heap[w.heap.size + 1]? = some (.cells #[.int .i64 k', .int .i64 ki', .string (st s'), .slice sa' cl'.length sc', .slice pa' cp'.length pc'] 28 (0, 0)) := by
      rw [hwb]
      show ((w.heap.push _).push _)[w.heap.size + 1]? = _
      rw [Array.getElem?_push, if_pos (by simp)]
    have hsb : wb.heap.size = w.heap.size + 2 := by rw [hwb]; simp
    have hE : exB (h + 1) (.mk k ki s l p) (.mk k' ki' s' l' p') = (decide (k = k') && (decide (ki = ki') && (decide (s = s') && (decide (l.length = l'.length) && (decide (p.length = p'.length) && (exL (exB h) l l' && exP (exB h) p p')))))) := rfl
    generalize exB (h + 1) (.mk k ki s l p) (.mk k' ki' s' l' p') = E at *
    rw [← e1, ← e1', ← e2, ← e2'] at hE
    have hb1 : cl.length ≤ 1000000 := by omega
    have hb2 : cp.length ≤ 1000000 := by omega
    replace hb0 := hide1 hb0
    replace hbx := hide1 hbx
    replace hby := hide1 hby
    replace hsb := hide1 hsb
    replace e1 := hide1 e1
    replace e2 := hide1 e2
    replace e1' := hide1 e1'
    replace e2' := hide1 e2'
    clear b1 b2
    have hout : ∀ b, E = b → (Ending.returned (.bool b) : Ending) = .returned (.bool E) := fun b h => by rw [h]
    have hs1 := st_eq s s'
    by_cases q1 : k = k'
    case neg =>
      have hq : (k == k') = false := by simpa using q1
      have hf : Hid ((Ending.returned (.bool false) : Ending) = .returned (.bool E) ∧ Below w.heap.size w wb) := hide1 ⟨hout _ (by rw [hE]; simp [q1]), hb0.out⟩
      clear hE hout hs1
      subst hwb
      go_enter Tryz.func12, Tryz.ntmps12
      go_wp2
      go_ret
      exact hf.out
    subst q1
    by_cases q2 : ki = ki'
    case neg =>
      have hq : (ki == ki') = false := by simpa using q2
      clear hs1
      have hf : Hid ((Ending.returned (.bool false) : Ending) = .returned (.bool E) ∧ Below w.heap.size w wb) := hide1 ⟨hout _ (by rw [hE]; simp [q2]), hb0.out⟩
      clear hE hout
      subst hwb
      go_enter Tryz.func12, Tryz.ntmps12
      go_wp2
      go_ret
      exact hf.out
    subst q2
    by_cases q3 : s = s'
    case neg =>
      have hq : ((st s).toList == (st s').toList) = false := by rw [hs1]; exact decide_eq_false q3
      clear hs1
      have hf : Hid ((Ending.returned (.bool false) : Ending) = .returned (.bool E) ∧ Below w.heap.size w wb) := hide1 ⟨hout _ (by rw [hE]; simp [q3]), hb0.out⟩
      clear hE hout
      subst hwb
      go_enter Tryz.func12, Tryz.ntmps12
      go_wp2
      go_ret
      exact hf.out
    subst q3
    by_cases q4 : cl.length = cl'.length
    case neg =>
      have hq : ((cl.length : Int) != (cl'.length : Int)) = true := by simp; omega
      clear hs1
      have hf : Hid ((Ending.returned (.bool false) : Ending) = .returned (.bool E) ∧ Below w.heap.size w wb) := hide1 ⟨hout _ (by rw [hE]; simp [q4]), hb0.out⟩
      clear hE hout
      subst hwb
      go_enter Tryz.func12, Tryz.ntmps12
      go_wp2
      go_ret
      exact hf.out
    by_cases q5 : cp.length = cp'.length
    case neg =>
      have hq : ((cp.length : Int) != (cp'.length : Int)) = true := by simp; omega
      have hq4 : ((cl.length : Int) != (cl'.length : Int)) = false := by simp; omega
      replace q4 := hide1 q4
      clear hs1
      have hf : Hid ((Ending.returned (.bool false) : Ending) = .returned (.bool E) ∧ Below w.heap.size w wb) := hide1 ⟨hout _ (by rw [hE]; simp [q4.out, q5]), hb0.out⟩
      clear hE hout
      subst hwb
      go_enter Tryz.func12, Tryz.ntmps12
      go_wp2
      go_ret
      exact hf.out
    have hq4 : ((cl.length : Int) != (cl'.length : Int)) = false := by simp; omega
    have hq5 : ((cp.length : Int) != (cp'.length : Int)) = false := by simp; omega
    have hE2 : Hid (E = (exL (exB h) l l' && exP (exB h) p p')) := hide1 (by rw [hE]; simp [q4, q5])
    replace q4 := hide1 q4
    replace q5 := hide1 q5
    clear hE hs1
    replace hout := hide1 hout
    go_enter Tryz.func12, Tryz.ntmps12
    go_wp2_with fail
    rw [← hwb]
    go_loopw [5] (fun x wr => ∃ i : Nat, x = .int .i64 (i : Nat) ∧ i ≤ cl.length ∧ Hid (exL (exB h) (l.drop i) (l'.drop i) = exL (exB h) l l') ∧ Hid (Below wb.heap.size wb wr)) (fun x _ => cl.length - (intOf x).toNat)
    case atStart => exact ⟨0, rfl, by omega, hide1 rfl, hide1 (Below.refl _ _)⟩
    case round =>
      obtain ⟨i, rfl, hin, hme, hbw⟩ := hrel
      have hbr := (hbw.out.block w.heap.size (by have := hsb.out; omega)).trans hbx.out
      have hbs := (hbw.out.block (w.heap.size + 1) (by have := hsb.out; omega)).trans hby.out
      have c3 : wr.cell? ⟨w.heap.size, 3, none⟩ = some (.slice sa cl.length sc) := by simp only [World.cell?, hbr]; rfl
      have d3 : wr.cell? ⟨w.heap.size + 1, 3, none⟩ = some (.slice sa' cl'.length sc') := by simp only [World.cell?, hbs]; rfl
      have hB : Hid (Below w.heap.size w wr) := hide1 (hb0.out.trans (hbw.out.mono hb0.out.size))
      by_cases hlt : i < cl.length
      · have hlt' : i < cl'.length := by have := q4.out; omega
        obtain ⟨x, hx⟩ : ∃ x, cl[i]? = some x := ⟨_, List.getElem?_eq_getElem hlt⟩
        obtain ⟨x', hx'⟩ : ∃ x, cl'[i]? = some x := ⟨_, List.getElem?_eq_getElem hlt'⟩
        obtain ⟨u, hu⟩ : ∃ u, l[i]? = some u := ⟨_, List.getElem?_eq_getElem (by have := e1.out; omega)⟩
        obtain ⟨u', hu'⟩ : ∃ u, l'[i]? = some u := ⟨_, List.getElem?_eq_getElem (by have := e1'.out; omega)⟩
        have hxu := hl i u x hu hx
        have hxu' := hl' i u' x' hu' hx'
        obtain ⟨b, o, cap, hve, -, hbl, hr⟩ := r1.at hx
        obtain ⟨b', o', cap', hve', -, hbl', hr'⟩ := r1'.at hx'
        have hva : sa = some ⟨b, o, none⟩ := by cases hve; rfl
        have hva' : sa' = some ⟨b', o', none⟩ := by cases hve'; rfl
        subst hva hva'
        have hx5 := r1.1 x (List.mem_of_getElem? hx)
        have hx5' := r1'.1 x' (List.mem_of_getElem? hx')
        obtain ⟨x0, x1, x2, x3, x4, rfl⟩ : ∃ x0 x1 x2 x3 x4, x = [x0, x1, x2, x3, x4] := by
          match x, hx5 with
          | [x0, x1, x2, x3, x4], _ => exact ⟨x0, x1, x2, x3, x4, rfl⟩
        obtain ⟨z0, z1, z2, z3, z4, rfl⟩ : ∃ x0 x1 x2 x3 x4, x' = [x0, x1, x2, x3, x4] := by
          match x', hx5' with
          | [x0, x1, x2, x3, x4], _ => exact ⟨x0, x1, x2, x3, x4, rfl⟩
        have hms := exL_drop (f := exB h) hu hu'
        rw [hme.out] at hms
        replace hms := hide1 hms
        have hhu := hh1 u (List.mem_of_getElem? hu)
        replace hxu := hide1 hxu
        replace hxu' := hide1 hxu'
        replace hr := hide1 hr
        replace hr' := hide1 hr'
        replace hbr := hide1 hbr
        replace hbs := hide1 hbs
        clear hme hve hve' hx hx' hx5 hx5' hu hu'
        go_upto_region 6 with fail
        refine wp_flowG 11 _ _ (by kernel_rfl) (by kernel_rfl) (by kernel_rfl) rfl (R6 w.heap.size (w.heap.size + 1) i (.slice (some ⟨b, o, none⟩) cl.length sc) (.slice (some ⟨b', o', none⟩) cl'.length sc') (.pointer (some ⟨b, o + i * 5, none⟩)) (.pointer (some ⟨b', o' + i * 5, none⟩)) #[x0, x1, x2, x3, x4] #[z0, z1, z2, z3, z4] (exB h u u')) R6_mono ?_ ?_
        · intro j op hop hj a wa hwa hsz hsl hdep K hK
          have hBa : Below w.heap.size w wa := hB.out.trans (hwa.mono hB.out.size)
          have hwz := hB.out.size
          match j, hop with
          | 0, hop =>
            obtain rfl := Option.some.inj hop
            have t2 : a.tmps.getD 2 undef = .pointer (some ⟨w.heap.size, 0, none⟩) := hsl 2 rfl
            exact .plain rfl (wp_val (w' := wa) (by simp only [execOp, Act.eval]; rw [show a.tmps.getD 2 undef = _ from t2]; kernel_rfl) (hK _ _ (Below.refl _ _) rfl))
          | 1, hop =>
            obtain rfl := Option.some.inj hop
            have t := hdep 0 _ 51 rfl rfl ⟨⟨0, .data⟩, by simp, rfl, rfl⟩
            have hc := (hwa.cell (p := ⟨w.heap.size, 3, none⟩) (show w.heap.size < wr.heap.size from (Array.getElem?_eq_some_iff.1 hbr.out).1)).trans c3
            exact .plain rfl (wp_val (w' := wa) (by simp only [execOp, Act.eval]; rw [show a.tmps.getD 51 undef = _ from t]; simp only [Sem.run_bind, ld_sV hc, Result.andThen_ok, Sem.run_pure]) (hK _ _ (Below.refl _ _) rfl))
          | 2, hop =>
            obtain rfl := Option.some.inj hop
            have t := hsl 5 rfl
            exact .plain rfl (wp_val (w' := wa) (by simp only [execOp, Act.eval]; rw [show a.tmps.getD 5 undef = _ from t]; rfl) (hK _ _ (Below.refl _ _) rfl))
          | 3, hop =>
            obtain rfl := Option.some.inj hop
            have t1 := hdep 1 _ 52 rfl rfl ⟨⟨1, .data⟩, by simp, rfl, rfl⟩
            have t2 := hdep 2 _ 53 rfl rfl ⟨⟨2, .data⟩, by simp, rfl, rfl⟩
            exact .plain rfl (wp_val (w' := wa) (by simp only [execOp, Act.eval]; rw [show a.tmps.getD 52 undef = _ from t1, show a.tmps.getD 53 undef = _ from t2]; simp only [Sem.run_bind, ix_oV hlt, Result.andThen_ok, Sem.run_pure]) (hK _ _ (Below.refl _ _) rfl))
          | 4, hop =>
            obtain rfl := Option.some.inj hop
            have t1 := hdep 3 _ 54 rfl rfl ⟨⟨3, .data⟩, by simp, rfl, rfl⟩
            have hrr : wa.rangeAt b (o + i * 5) [x0, x1, x2, x3, x4] := fun q v hq => by
              rw [World.cell?_of_block (w := w) (hBa.block b hbl)]
              exact hr.out q v hq
            exact .plain rfl (wp_val (w' := wa) (by simp only [execOp, Act.eval]; rw [show a.tmps.getD 54 undef = _ from t1]; simp only [Sem.run_bind, ld_mV hrr, Result.andThen_ok, Sem.run_pure]) (hK _ _ (Below.refl _ _) rfl))
          | 5, hop =>
            obtain rfl := Option.some.inj hop
            have t2 : a.tmps.getD 3 undef = .pointer (some ⟨w.heap.size + 1, 0, none⟩) := hsl 3 rfl
            exact .plain rfl (wp_val (w' := wa) (by simp only [execOp, Act.eval]; rw [show a.tmps.getD 3 undef = _ from t2]; kernel_rfl) (hK _ _ (Below.refl _ _) rfl))
          | 6, hop =>
            obtain rfl := Option.some.inj hop
            have t := hdep 5 _ 56 rfl rfl ⟨⟨5, .data⟩, by simp, rfl, rfl⟩
            have hc := (hwa.cell (p := ⟨w.heap.size + 1, 3, none⟩) (show w.heap.size + 1 < wr.heap.size from (Array.getElem?_eq_some_iff.1 hbs.out).1)).trans d3
            exact .plain rfl (wp_val (w' := wa) (by simp only [execOp, Act.eval]; rw [show a.tmps.getD 56 undef = _ from t]; simp only [Sem.run_bind, ld_sV hc, Result.andThen_ok, Sem.run_pure]) (hK _ _ (Below.refl _ _) rfl))
          | 7, hop =>
            obtain rfl := Option.some.inj hop
            have t := hsl 5 rfl
            exact .plain rfl (wp_val (w' := wa) (by simp only [execOp, Act.eval]; rw [show a.tmps.getD 5 undef = _ from t]; rfl) (hK _ _ (Below.refl _ _) rfl))
          | 8, hop =>
            obtain rfl := Option.some.inj hop
            have t1 := hdep 6 _ 57 rfl rfl ⟨⟨6, .data⟩, by simp, rfl, rfl⟩
            have t2 := hdep 7 _ 58 rfl rfl ⟨⟨7, .data⟩, by simp, rfl, rfl⟩
            exact .plain rfl (wp_val (w' := wa) (by simp only [execOp, Act.eval]; rw [show a.tmps.getD 57 undef = _ from t1, show a.tmps.getD 58 undef = _ from t2]; simp only [Sem.run_bind, ix_oV hlt', Result.andThen_ok, Sem.run_pure]) (hK _ _ (Below.refl _ _) rfl))
          | 9, hop =>
            obtain rfl := Option.some.inj hop
            have t1 := hdep 8 _ 59 rfl rfl ⟨⟨8, .data⟩, by simp, rfl, rfl⟩
            have hrr : wa.rangeAt b' (o' + i * 5) [z0, z1, z2, z3, z4] := fun q v hq => by
              rw [World.cell?_of_block (w := w) (hBa.block b' hbl')]
              exact hr'.out q v hq
            exact .plain rfl (wp_val (w' := wa) (by simp only [execOp, Act.eval]; rw [show a.tmps.getD 59 undef = _ from t1]; simp only [Sem.run_bind, ld_mV hrr, Result.andThen_ok, Sem.run_pure]) (hK _ _ (Below.refl _ _) rfl))
          | 10, hop =>
            obtain rfl := Option.some.inj hop
            have t4 := hdep 4 _ 55 rfl rfl ⟨⟨4, .data⟩, by simp, rfl, rfl⟩
            have t9 := hdep 9 _ 60 rfl rfl ⟨⟨9, .data⟩, by simp, rfl, rfl⟩
            have hcal := ih hhu (hxu.out.frame (w' := wa) (G := F) (fun j _ hj => hBa.block j hj) (fun _ h _ => h)) (hxu'.out.frame (w' := wa) (G := G) (fun j _ hj => hBa.block j hj) (fun _ h _ => h))
            refine .plain rfl (oper_any (J := fun r w' => r = .bool (exB h u u') ∧ Below wa.heap.size wa w') 12 #[.tmp 55, .tmp 60] _ rfl #[.agg #[x0, x1, x2, x3, x4], .agg #[z0, z1, z2, z3, z4]] (by simp only [List.map_toArray, List.map_cons, List.map_nil, Act.eval]; rw [show a.tmps.getD 55 undef = _ from t4, show a.tmps.getD 60 undef = _ from t9]) (fun w => by kernel_rfl) (hcal.mono fun e w' h => ⟨_, h.1, rfl, h.2⟩) ?_)
            rintro r w' ⟨rfl, hb⟩
            exact hK _ _ hb rfl
          | 11, _ => exact absurd rfl hj
          | _ + 12, hop => exact absurd hop (by simp)
        · intro a wa hwa hdf hsz hsl hrr K hK
          have t10 := hrr 10 _ 61 rfl (by decide) rfl
          have hbw2 := hide1 (hbw.out.trans (hwa.mono hbw.out.size))
          refine .plain rfl (wp_val (w' := wa) (v := .bool (!exB h u u')) (by simp only [execOp, Act.eval]; rw [show a.tmps.getD 61 undef = _ from t10]; kernel_rfl) ?_)
          refine hK _ wa ?_
          have hact := act_puts hdf hsz hsl
          have hBf := hide1 (hB.out.trans (hwa.mono hB.out.size))
          clear hrr hsl hdf hsz hK t10 ih
          simp only [List.filterMap_cons, List.filterMap_nil, List.foldl_cons, List.foldl_nil] at hact
          rw [hact]
          generalize a.tmps.getD 51 undef = y51
          generalize a.tmps.getD 52 undef = y52
          generalize a.tmps.getD 53 undef = y53
          generalize a.tmps.getD 54 undef = y54
          generalize a.tmps.getD 55 undef = y55
          generalize a.tmps.getD 56 undef = y56
          generalize a.tmps.getD 57 undef = y57
          generalize a.tmps.getD 58 undef = y58
          generalize a.tmps.getD 59 undef = y59
          generalize a.tmps.getD 60 undef = y60
          generalize a.tmps.getD 61 undef = y61
          generalize a.tmps.getD 62 undef = y62
          clear hact a
          cases hex : exB h u u' with
          | true =>
            rw [hex, Bool.true_and] at hms
            refine (‹∀ (a : Act) (w : World), Code.wp Tryz.prog _ _ a w → _›) _ wa ?_
            simp only [Bool.not_true, Act.put, List.setIfInBounds_toArray, List.set_cons_succ, List.set_cons_zero]
            go_wp2
            go_roundw
            case rel => exact ⟨i + 1, rfl, by omega, hide1 hms.out.symm, hbw2⟩
            case measure => simp [intOf]; omega
          | false =>
            rw [hex, Bool.false_and] at hms
            refine (‹∀ (a : Act) (w : World), Code.wp Tryz.prog _ _ a w → _›) _ wa ?_
            have hf : Hid ((Ending.returned (.bool false) : Ending) = .returned (.bool E) ∧ Below w.heap.size w wa) := hide1 ⟨hout.out _ (by rw [hE2.out, hms.out]; rfl), hBf.out⟩
            simp only [Bool.not_false, Act.put, List.setIfInBounds_toArray, List.set_cons_succ, List.set_cons_zero]
            go_wp2
            go_ret
            exact hf.out
      · have hie : i = cl.length := by omega
        subst hie
        have hE3 : Hid (E = exP (exB h) p p') := hide1 (by
          have h3 : exL (exB h) l l' = true := by
            rw [← hme.out, List.drop_of_length_le (by have := e1.out; omega)]
            cases l'.drop cl.length <;> rfl
          rw [hE2.out, h3, Bool.true_and])
        clear hme hlt r1 r1' hh1
        go_wp2_with fail
        go_loopw [6] (fun x wr => ∃ i : Nat, x = .int .i64 (i : Nat) ∧ i ≤ cp.length ∧ Hid (exP (exB h) (p.drop i) (p'.drop i) = exP (exB h) p p') ∧ Hid (Below wb.heap.size wb wr)) (fun x _ => cp.length - (intOf x).toNat)
        case atStart => exact ⟨0, rfl, by omega, hide1 rfl, hbw⟩
        case round =>
          clear hbw hB c3 d3 hbr hbs hin
          obtain ⟨i, rfl, hin, hme, hbw⟩ := hrel
          have hbr := (hbw.out.block w.heap.size (by have := hsb.out; omega)).trans hbx.out
          have hbs := (hbw.out.block (w.heap.size + 1) (by have := hsb.out; omega)).trans hby.out
          have c4 : wr.cell? ⟨w.heap.size, 4, none⟩ = some (.slice pa cp.length pc) := by simp only [World.cell?, hbr]; rfl
          have d4 : wr.cell? ⟨w.heap.size + 1, 4, none⟩ = some (.slice pa' cp'.length pc') := by simp only [World.cell?, hbs]; rfl
          have hB : Hid (Below w.heap.size w wr) := hide1 (hb0.out.trans (hbw.out.mono hb0.out.size))
          by_cases hlt : i < cp.length
          · have hlt' : i < cp'.length := by have := q5.out; omega
            obtain ⟨x, hx⟩ : ∃ x, cp[i]? = some x := ⟨_, List.getElem?_eq_getElem hlt⟩
            obtain ⟨x', hx'⟩ : ∃ x, cp'[i]? = some x := ⟨_, List.getElem?_eq_getElem hlt'⟩
            obtain ⟨u, hu⟩ : ∃ u, p[i]? = some u := ⟨_, List.getElem?_eq_getElem (by have := e2.out; omega)⟩
            obtain ⟨u', hu'⟩ : ∃ u, p'[i]? = some u := ⟨_, List.getElem?_eq_getElem (by have := e2'.out; omega)⟩
            have hxn := hp1 i u x hu hx
            have hxn' := hp1' i u' x' hu' hx'
            have hxu := hp2 i u x hu hx
            have hxu' := hp2' i u' x' hu' hx'
            obtain ⟨b, o, cap, hve, -, hbl, hr⟩ := r2.at hx
            obtain ⟨b', o', cap', hve', -, hbl', hr'⟩ := r2'.at hx'
            have hva : pa = some ⟨b, o, none⟩ := by cases hve; rfl
            have hva' : pa' = some ⟨b', o', none⟩ := by cases hve'; rfl
            subst hva hva'
            obtain ⟨x0, x1, x2, x3, x4, x5, rfl⟩ := arr6 (r2.1 x (List.mem_of_getElem? hx))
            obtain ⟨z0, z1, z2, z3, z4, z5, rfl⟩ := arr6 (r2'.1 x' (List.mem_of_getElem? hx'))
            have hms := exP_drop (f := exB h) hu hu'
            rw [hme.out] at hms
            replace hms := hide1 hms
            have hhu := hh2 u (List.mem_of_getElem? hu)
            replace hxu := hide1 hxu
            replace hxu' := hide1 hxu'
            replace hr := hide1 hr
            replace hr' := hide1 hr'
            replace hbr := hide1 hbr
            replace hbs := hide1 hbs
            simp only [List.head?_cons, Option.some.injEq] at hxn hxn'
            subst hxn hxn'
            clear hme hve hve' hx hx' hu hu'
            go_upto_region 11 with fail
            by_cases hnm : u.1 = u'.1
            case neg =>
              refine wp_flowG 28 _ _ (by kernel_rfl) (by kernel_rfl) (by kernel_rfl) rfl (fun j v _ => v = ([(.pointer (some ⟨w.heap.size, 4, none⟩)), (.slice (some ⟨b, o, none⟩) cp.length pc), (.int .i64 (i : Nat)), (.pointer (some ⟨b, o + i * 6, none⟩)), (.pointer (some ⟨b, o + i * 6, none⟩)), (.string (st u.1)), (.pointer (some ⟨w.heap.size + 1, 4, none⟩)), (.slice (some ⟨b', o', none⟩) cp'.length pc'), (.int .i64 (i : Nat)), (.pointer (some ⟨b', o' + i * 6, none⟩)), (.pointer (some ⟨b', o' + i * 6, none⟩)), (.string (st u'.1)), (.bool true), (.bool true), undef, undef, undef, undef, undef, undef, undef, undef, undef, undef, undef, undef, undef, undef] : List Value).getD j undef) (fun _ _ _ _ h _ => h) ?_ ?_
              · intro j op hop hj a wa hwa hsz hsl hdep K hK
                have hBa : Below w.heap.size w wa := hB.out.trans (hwa.mono hB.out.size)
                have hz83 : 83 < a.tmps.size := by rw [hsz]; simp
                match j, hop with
                  | 0, hop =>
                    obtain rfl := Option.some.inj hop
                    have tq : a.tmps.getD 2 undef = .pointer (some ⟨w.heap.size, 0, none⟩) := hsl 2 rfl
                    exact .plain rfl (wp_val (w' := wa) (v := (.pointer (some ⟨w.heap.size, 4, none⟩))) (by simp only [execOp, Act.eval]; rw [show a.tmps.getD 2 undef = _ from tq]; kernel_rfl) (hK _ _ (Below.refl _ _) rfl))
                  | 1, hop =>
                    obtain rfl := Option.some.inj hop
                    have t0 : a.tmps.getD 70 undef = (.pointer (some ⟨w.heap.size, 4, none⟩)) := hdep 0 _ 70 rfl rfl ⟨⟨0, .data⟩, by simp, rfl, rfl⟩
                    have hc := (hwa.cell (p := ⟨w.heap.size, 4, none⟩) (show w.heap.size < wr.heap.size from (Array.getElem?_eq_some_iff.1 hbr.out).1)).trans c4
                    exact .plain rfl (wp_val (w' := wa) (v := (.slice (some ⟨b, o, none⟩) cp.length pc)) (by simp only [execOp, Act.eval]; rw [show a.tmps.getD 70 undef = _ from t0]; simp only [Sem.run_bind, ld_sP hc, Result.andThen_ok, Sem.run_pure]) (hK _ _ (Below.refl _ _) rfl))
                  | 2, hop =>
                    obtain rfl := Option.some.inj hop
                    have tq : a.tmps.getD 6 undef = (.int .i64 (i : Nat)) := hsl 6 rfl
                    exact .plain rfl (wp_val (w' := wa) (v := (.int .i64 (i : Nat))) (by simp only [execOp, Act.eval]; rw [show a.tmps.getD 6 undef = _ from tq]; rfl) (hK _ _ (Below.refl _ _) rfl))
                  | 3, hop =>
                    obtain rfl := Option.some.inj hop
                    have t1 : a.tmps.getD 71 undef = (.slice (some ⟨b, o, none⟩) cp.length pc) := hdep 1 _ 71 rfl rfl ⟨⟨1, .data⟩, by simp, rfl, rfl⟩
                    have t2 : a.tmps.getD 72 undef = (.int .i64 (i : Nat)) := hdep 2 _ 72 rfl rfl ⟨⟨2, .data⟩, by simp, rfl, rfl⟩
                    exact .plain rfl (wp_val (w' := wa) (v := (.pointer (some ⟨b, o + i * 6, none⟩))) (by simp only [execOp, Act.eval]; rw [show a.tmps.getD 71 undef = _ from t1, show a.tmps.getD 72 undef = _ from t2]; simp only [Sem.run_bind, ix_oP hlt, Result.andThen_ok, Sem.run_pure]) (hK _ _ (Below.refl _ _) rfl))
                  | 4, hop =>
                    obtain rfl := Option.some.inj hop
                    have t3 : a.tmps.getD 73 undef = (.pointer (some ⟨b, o + i * 6, none⟩)) := hdep 3 _ 73 rfl rfl ⟨⟨3, .data⟩, by simp, rfl, rfl⟩
                    exact .plain rfl (wp_val (w' := wa) (v := (.pointer (some ⟨b, o + i * 6, none⟩))) (by simp only [execOp, Act.eval]; rw [show a.tmps.getD 73 undef = _ from t3]; kernel_rfl) (hK _ _ (Below.refl _ _) rfl))
                  | 5, hop =>
                    obtain rfl := Option.some.inj hop
                    have t4 : a.tmps.getD 74 undef = (.pointer (some ⟨b, o + i * 6, none⟩)) := hdep 4 _ 74 rfl rfl ⟨⟨4, .data⟩, by simp, rfl, rfl⟩
                    have hc : wa.cell? ⟨b, o + i * 6, none⟩ = some (.string (st u.1)) := by
                      rw [World.cell?_of_block (w := w) (hBa.block b hbl)]
                      exact hr.out 0 _ rfl
                    exact .plain rfl (wp_val (w' := wa) (v := (.string (st u.1))) (by simp only [execOp, Act.eval]; rw [show a.tmps.getD 74 undef = _ from t4]; simp only [Sem.run_bind, ld_s0 hc, Result.andThen_ok, Sem.run_pure]) (hK _ _ (Below.refl _ _) rfl))
                  | 6, hop =>
                    obtain rfl := Option.some.inj hop
                    have tq : a.tmps.getD 3 undef = .pointer (some ⟨w.heap.size + 1, 0, none⟩) := hsl 3 rfl
                    exact .plain rfl (wp_val (w' := wa) (v := (.pointer (some ⟨w.heap.size + 1, 4, none⟩))) (by simp only [execOp, Act.eval]; rw [show a.tmps.getD 3 undef = _ from tq]; kernel_rfl) (hK _ _ (Below.refl _ _) rfl))
                  | 7, hop =>
                    obtain rfl := Option.some.inj hop
                    have t6 : a.tmps.getD 76 undef = (.pointer (some ⟨w.heap.size + 1, 4, none⟩)) := hdep 6 _ 76 rfl rfl ⟨⟨6, .data⟩, by simp, rfl, rfl⟩
                    have hc := (hwa.cell (p := ⟨w.heap.size + 1, 4, none⟩) (show w.heap.size + 1 < wr.heap.size from (Array.getElem?_eq_some_iff.1 hbs.out).1)).trans d4
                    exact .plain rfl (wp_val (w' := wa) (v := (.slice (some ⟨b', o', none⟩) cp'.length pc')) (by simp only [execOp, Act.eval]; rw [show a.tmps.getD 76 undef = _ from t6]; simp only [Sem.run_bind, ld_sP hc, Result.andThen_ok, Sem.run_pure]) (hK _ _ (Below.refl _ _) rfl))
                  | 8, hop =>
                    obtain rfl := Option.some.inj hop
                    have tq : a.tmps.getD 6 undef = (.int .i64 (i : Nat)) := hsl 6 rfl
                    exact .plain rfl (wp_val (w' := wa) (v := (.int .i64 (i : Nat))) (by simp only [execOp, Act.eval]; rw [show a.tmps.getD 6 undef = _ from tq]; rfl) (hK _ _ (Below.refl _ _) rfl))
                  | 9, hop =>
                    obtain rfl := Option.some.inj hop
                    have t7 : a.tmps.getD 77 undef = (.slice (some ⟨b', o', none⟩) cp'.length pc') := hdep 7 _ 77 rfl rfl ⟨⟨7, .data⟩, by simp, rfl, rfl⟩
                    have t8 : a.tmps.getD 78 undef = (.int .i64 (i : Nat)) := hdep 8 _ 78 rfl rfl ⟨⟨8, .data⟩, by simp, rfl, rfl⟩
                    exact .plain rfl (wp_val (w' := wa) (v := (.pointer (some ⟨b', o' + i * 6, none⟩))) (by simp only [execOp, Act.eval]; rw [show a.tmps.getD 77 undef = _ from t7, show a.tmps.getD 78 undef = _ from t8]; simp only [Sem.run_bind, ix_oP hlt', Result.andThen_ok, Sem.run_pure]) (hK _ _ (Below.refl _ _) rfl))
                  | 10, hop =>
                    obtain rfl := Option.some.inj hop
                    have t9 : a.tmps.getD 79 undef = (.pointer (some ⟨b', o' + i * 6, none⟩)) := hdep 9 _ 79 rfl rfl ⟨⟨9, .data⟩, by simp, rfl, rfl⟩
                    exact .plain rfl (wp_val (w' := wa) (v := (.pointer (some ⟨b', o' + i * 6, none⟩))) (by simp only [execOp, Act.eval]; rw [show a.tmps.getD 79 undef = _ from t9]; kernel_rfl) (hK _ _ (Below.refl _ _) rfl))
                  | 11, hop =>
                    obtain rfl := Option.some.inj hop
                    have t10 : a.tmps.getD 80 undef = (.pointer (some ⟨b', o' + i * 6, none⟩)) := hdep 10 _ 80 rfl rfl ⟨⟨10, .data⟩, by simp, rfl, rfl⟩
                    have hc : wa.cell? ⟨b', o' + i * 6, none⟩ = some (.string (st u'.1)) := by
                      rw [World.cell?_of_block (w := w) (hBa.block b' hbl')]
                      exact hr'.out 0 _ rfl
                    exact .plain rfl (wp_val (w' := wa) (v := (.string (st u'.1))) (by simp only [execOp, Act.eval]; rw [show a.tmps.getD 80 undef = _ from t10]; simp only [Sem.run_bind, ld_s0 hc, Result.andThen_ok, Sem.run_pure]) (hK _ _ (Below.refl _ _) rfl))
                  | 12, hop =>
                    obtain rfl := Option.some.inj hop
                    have t5 : a.tmps.getD 75 undef = (.string (st u.1)) := hdep 5 _ 75 rfl rfl ⟨⟨5, .data⟩, by simp, rfl, rfl⟩
                    have t11 : a.tmps.getD 81 undef = (.string (st u'.1)) := hdep 11 _ 81 rfl rfl ⟨⟨11, .data⟩, by simp, rfl, rfl⟩
                    exact .plain rfl (wp_val (w' := wa) (v := (.bool true)) (by simp only [execOp, Act.eval]; rw [show a.tmps.getD 75 undef = _ from t5, show a.tmps.getD 81 undef = _ from t11]; simp only [Sem.run_bind, eg_s, nq_s, decide_eq_false hnm, Bool.not_false, Result.andThen_ok, Sem.run_pure]) (hK _ _ (Below.refl _ _) rfl))
                  | 13, hop =>
                    obtain rfl := Option.some.inj hop
                    have t12 : a.tmps.getD 82 undef = (.bool true) := hdep 12 _ 82 rfl rfl ⟨⟨12, .data⟩, by simp, rfl, rfl⟩
                    exact .plain rfl (wp_val (w' := wa) (v := (.bool true)) (by simp only [execOp, Act.eval]; rw [show a.tmps.getD 82 undef = _ from t12]; rfl) (hK _ _ (Below.refl _ _) rfl))
                  | 14, hop =>
                    obtain rfl := Option.some.inj hop
                    have g13 : a.tmps.getD 83 undef = .bool true := hdep 13 _ 83 rfl rfl ⟨⟨13, .guard⟩, by simp, rfl, rfl⟩
                    exact .skip rfl rfl hz83 g13 (hK _ _ (Below.refl _ _) rfl)
                  | 15, hop =>
                    obtain rfl := Option.some.inj hop
                    have g13 : a.tmps.getD 83 undef = .bool true := hdep 13 _ 83 rfl rfl ⟨⟨13, .guard⟩, by simp, rfl, rfl⟩
                    exact .skip rfl rfl hz83 g13 (hK _ _ (Below.refl _ _) rfl)
                  | 16, hop =>
                    obtain rfl := Option.some.inj hop
                    have g13 : a.tmps.getD 83 undef = .bool true := hdep 13 _ 83 rfl rfl ⟨⟨13, .guard⟩, by simp, rfl, rfl⟩
                    exact .skip rfl rfl hz83 g13 (hK _ _ (Below.refl _ _) rfl)
                  | 17, hop =>
                    obtain rfl := Option.some.inj hop
                    have g13 : a.tmps.getD 83 undef = .bool true := hdep 13 _ 83 rfl rfl ⟨⟨13, .guard⟩, by simp, rfl, rfl⟩
                    exact .skip rfl rfl hz83 g13 (hK _ _ (Below.refl _ _) rfl)
                  | 18, hop =>
                    obtain rfl := Option.some.inj hop
                    have g13 : a.tmps.getD 83 undef = .bool true := hdep 13 _ 83 rfl rfl ⟨⟨13, .guard⟩, by simp, rfl, rfl⟩
                    exact .skip rfl rfl hz83 g13 (hK _ _ (Below.refl _ _) rfl)
                  | 19, hop =>
                    obtain rfl := Option.some.inj hop
                    have g13 : a.tmps.getD 83 undef = .bool true := hdep 13 _ 83 rfl rfl ⟨⟨13, .guard⟩, by simp, rfl, rfl⟩
                    exact .skip rfl rfl hz83 g13 (hK _ _ (Below.refl _ _) rfl)
                  | 20, hop =>
                    obtain rfl := Option.some.inj hop
                    have g13 : a.tmps.getD 83 undef = .bool true := hdep 13 _ 83 rfl rfl ⟨⟨13, .guard⟩, by simp, rfl, rfl⟩
                    exact .skip rfl rfl hz83 g13 (hK _ _ (Below.refl _ _) rfl)
                  | 21, hop =>
                    obtain rfl := Option.some.inj hop
                    have g13 : a.tmps.getD 83 undef = .bool true := hdep 13 _ 83 rfl rfl ⟨⟨13, .guard⟩, by simp, rfl, rfl⟩
                    exact .skip rfl rfl hz83 g13 (hK _ _ (Below.refl _ _) rfl)
                  | 22, hop =>
                    obtain rfl := Option.some.inj hop
                    have g13 : a.tmps.getD 83 undef = .bool true := hdep 13 _ 83 rfl rfl ⟨⟨13, .guard⟩, by simp, rfl, rfl⟩
                    exact .skip rfl rfl hz83 g13 (hK _ _ (Below.refl _ _) rfl)
                  | 23, hop =>
                    obtain rfl := Option.some.inj hop
                    have g13 : a.tmps.getD 83 undef = .bool true := hdep 13 _ 83 rfl rfl ⟨⟨13, .guard⟩, by simp, rfl, rfl⟩
                    exact .skip rfl rfl hz83 g13 (hK _ _ (Below.refl _ _) rfl)
                  | 24, hop =>
                    obtain rfl := Option.some.inj hop
                    have g13 : a.tmps.getD 83 undef = .bool true := hdep 13 _ 83 rfl rfl ⟨⟨13, .guard⟩, by simp, rfl, rfl⟩
                    exact .skip rfl rfl hz83 g13 (hK _ _ (Below.refl _ _) rfl)
                  | 25, hop =>
                    obtain rfl := Option.some.inj hop
                    have g13 : a.tmps.getD 83 undef = .bool true := hdep 13 _ 83 rfl rfl ⟨⟨13, .guard⟩, by simp, rfl, rfl⟩
                    exact .skip rfl rfl hz83 g13 (hK _ _ (Below.refl _ _) rfl)
                  | 26, hop =>
                    obtain rfl := Option.some.inj hop
                    have g13 : a.tmps.getD 83 undef = .bool true := hdep 13 _ 83 rfl rfl ⟨⟨13, .guard⟩, by simp, rfl, rfl⟩
                    exact .skip rfl rfl hz83 g13 (hK _ _ (Below.refl _ _) rfl)
                  | 27, hop =>
                    obtain rfl := Option.some.inj hop
                    have g13 : a.tmps.getD 83 undef = .bool true := hdep 13 _ 83 rfl rfl ⟨⟨13, .guard⟩, by simp, rfl, rfl⟩
                    exact .skip rfl rfl hz83 g13 (hK _ _ (Below.refl _ _) rfl)
                  | 28, _ => exact absurd rfl hj
                  | _ + 29, hop => exact absurd hop (by simp)
              · intro a wa hwa hdf hsz hsl hrr K hK
                have g13 : a.tmps.getD 83 undef = (.bool true) := hrr 13 _ 83 rfl (by decide) rfl
                have g27 : a.tmps.getD 97 undef = undef := hrr 27 _ 97 rfl (by decide) rfl
                have hbw2 := hide1 (hbw.out.trans (hwa.mono hbw.out.size))
                refine .plain rfl (wp_val (w' := wa) (v := (.bool true)) (by simp only [execOp, Act.eval]; rw [show a.tmps.getD 83 undef = _ from g13, show a.tmps.getD 97 undef = _ from g27]; rfl) ?_)
                refine hK _ wa ?_
                have hact := act_puts hdf hsz hsl
                have hBf := hide1 (hB.out.trans (hwa.mono hB.out.size))
                clear hrr hsl hdf hsz hK g13 g27 ih
                simp only [List.filterMap_cons, List.filterMap_nil, List.foldl_cons, List.foldl_nil] at hact
                rw [hact]
                generalize a.tmps.getD 70 undef = y70
                generalize a.tmps.getD 71 undef = y71
                generalize a.tmps.getD 72 undef = y72
                generalize a.tmps.getD 73 undef = y73
                generalize a.tmps.getD 74 undef = y74
                generalize a.tmps.getD 75 undef = y75
                generalize a.tmps.getD 76 undef = y76
                generalize a.tmps.getD 77 undef = y77
                generalize a.tmps.getD 78 undef = y78
                generalize a.tmps.getD 79 undef = y79
                generalize a.tmps.getD 80 undef = y80
                generalize a.tmps.getD 81 undef = y81
                generalize a.tmps.getD 82 undef = y82
                generalize a.tmps.getD 83 undef = y83
                generalize a.tmps.getD 84 undef = y84
                generalize a.tmps.getD 85 undef = y85
                generalize a.tmps.getD 86 undef = y86
                generalize a.tmps.getD 87 undef = y87
                generalize a.tmps.getD 88 undef = y88
                generalize a.tmps.getD 89 undef = y89
                generalize a.tmps.getD 90 undef = y90
                generalize a.tmps.getD 91 undef = y91
                generalize a.tmps.getD 92 undef = y92
                generalize a.tmps.getD 93 undef = y93
                generalize a.tmps.getD 94 undef = y94
                generalize a.tmps.getD 95 undef = y95
                generalize a.tmps.getD 96 undef = y96
                generalize a.tmps.getD 97 undef = y97
                generalize a.tmps.getD 98 undef = y98
                clear hact a
                rw [decide_eq_false hnm, Bool.false_and] at hms
                refine (‹∀ (a : Act) (w : World), Code.wp Tryz.prog _ _ a w → _›) _ wa ?_
                have hf : Hid ((Ending.returned (.bool false) : Ending) = .returned (.bool E) ∧ Below w.heap.size w wa) := hide1 ⟨hout.out _ (by rw [hE3.out, hms.out]), hBf.out⟩
                simp only [Act.put, List.setIfInBounds_toArray, List.set_cons_succ, List.set_cons_zero]
                go_wp2
                go_ret
                exact hf.out
            refine wp_flowG 28 _ _ (by kernel_rfl) (by kernel_rfl) (by kernel_rfl) rfl (fun j v _ => v = ([(.pointer (some ⟨w.heap.size, 4, none⟩)), (.slice (some ⟨b, o, none⟩) cp.length pc), (.int .i64 (i : Nat)), (.pointer (some ⟨b, o + i * 6, none⟩)), (.pointer (some ⟨b, o + i * 6, none⟩)), (.string (st u.1)), (.pointer (some ⟨w.heap.size + 1, 4, none⟩)), (.slice (some ⟨b', o', none⟩) cp'.length pc'), (.int .i64 (i : Nat)), (.pointer (some ⟨b', o' + i * 6, none⟩)), (.pointer (some ⟨b', o' + i * 6, none⟩)), (.string (st u'.1)), (.bool false), (.bool false), (.pointer (some ⟨w.heap.size, 4, none⟩)), (.slice (some ⟨b, o, none⟩) cp.length pc), (.int .i64 (i : Nat)), (.pointer (some ⟨b, o + i * 6, none⟩)), (.pointer (some ⟨b, o + i * 6 + 1, none⟩)), (.agg #[x1, x2, x3, x4, x5]), (.pointer (some ⟨w.heap.size + 1, 4, none⟩)), (.slice (some ⟨b', o', none⟩) cp'.length pc'), (.int .i64 (i : Nat)), (.pointer (some ⟨b', o' + i * 6, none⟩)), (.pointer (some ⟨b', o' + i * 6 + 1, none⟩)), (.agg #[z1, z2, z3, z4, z5]), (.bool (exB h u.2 u'.2)), (.bool (!exB h u.2 u'.2))] : List Value).getD j undef) (fun _ _ _ _ h _ => h) ?_ ?_
            · intro j op hop hj a wa hwa hsz hsl hdep K hK
              have hBa : Below w.heap.size w wa := hB.out.trans (hwa.mono hB.out.size)
              have hz83 : 83 < a.tmps.size := by rw [hsz]; simp
              match j, hop with
                | 0, hop =>
                  obtain rfl := Option.some.inj hop
                  have tq : a.tmps.getD 2 undef = .pointer (some ⟨w.heap.size, 0, none⟩) := hsl 2 rfl
                  exact .plain rfl (wp_val (w' := wa) (v := (.pointer (some ⟨w.heap.size, 4, none⟩))) (by simp only [execOp, Act.eval]; rw [show a.tmps.getD 2 undef = _ from tq]; kernel_rfl) (hK _ _ (Below.refl _ _) rfl))
                | 1, hop =>
                  obtain rfl := Option.some.inj hop
                  have t0 : a.tmps.getD 70 undef = (.pointer (some ⟨w.heap.size, 4, none⟩)) := hdep 0 _ 70 rfl rfl ⟨⟨0, .data⟩, by simp, rfl, rfl⟩
                  have hc := (hwa.cell (p := ⟨w.heap.size, 4, none⟩) (show w.heap.size < wr.heap.size from (Array.getElem?_eq_some_iff.1 hbr.out).1)).trans c4
                  exact .plain rfl (wp_val (w' := wa) (v := (.slice (some ⟨b, o, none⟩) cp.length pc)) (by simp only [execOp, Act.eval]; rw [show a.tmps.getD 70 undef = _ from t0]; simp only [Sem.run_bind, ld_sP hc, Result.andThen_ok, Sem.run_pure]) (hK _ _ (Below.refl _ _) rfl))
                | 2, hop =>
                  obtain rfl := Option.some.inj hop
                  have tq : a.tmps.getD 6 undef = (.int .i64 (i : Nat)) := hsl 6 rfl
                  exact .plain rfl (wp_val (w' := wa) (v := (.int .i64 (i : Nat))) (by simp only [execOp, Act.eval]; rw [show a.tmps.getD 6 undef = _ from tq]; rfl) (hK _ _ (Below.refl _ _) rfl))
                | 3, hop =>
                  obtain rfl := Option.some.inj hop
                  have t1 : a.tmps.getD 71 undef = (.slice (some ⟨b, o, none⟩) cp.length pc) := hdep 1 _ 71 rfl rfl ⟨⟨1, .data⟩, by simp, rfl, rfl⟩
                  have t2 : a.tmps.getD 72 undef = (.int .i64 (i : Nat)) := hdep 2 _ 72 rfl rfl ⟨⟨2, .data⟩, by simp, rfl, rfl⟩
                  exact .plain rfl (wp_val (w' := wa) (v := (.pointer (some ⟨b, o + i * 6, none⟩))) (by simp only [execOp, Act.eval]; rw [show a.tmps.getD 71 undef = _ from t1, show a.tmps.getD 72 undef = _ from t2]; simp only [Sem.run_bind, ix_oP hlt, Result.andThen_ok, Sem.run_pure]) (hK _ _ (Below.refl _ _) rfl))
                | 4, hop =>
                  obtain rfl := Option.some.inj hop
                  have t3 : a.tmps.getD 73 undef = (.pointer (some ⟨b, o + i * 6, none⟩)) := hdep 3 _ 73 rfl rfl ⟨⟨3, .data⟩, by simp, rfl, rfl⟩
                  exact .plain rfl (wp_val (w' := wa) (v := (.pointer (some ⟨b, o + i * 6, none⟩))) (by simp only [execOp, Act.eval]; rw [show a.tmps.getD 73 undef = _ from t3]; kernel_rfl) (hK _ _ (Below.refl _ _) rfl))
                | 5, hop =>
                  obtain rfl := Option.some.inj hop
                  have t4 : a.tmps.getD 74 undef = (.pointer (some ⟨b, o + i * 6, none⟩)) := hdep 4 _ 74 rfl rfl ⟨⟨4, .data⟩, by simp, rfl, rfl⟩
                  have hc : wa.cell? ⟨b, o + i * 6, none⟩ = some (.string (st u.1)) := by
                    rw [World.cell?_of_block (w := w) (hBa.block b hbl)]
                    exact hr.out 0 _ rfl
                  exact .plain rfl (wp_val (w' := wa) (v := (.string (st u.1))) (by simp only [execOp, Act.eval]; rw [show a.tmps.getD 74 undef = _ from t4]; simp only [Sem.run_bind, ld_s0 hc, Result.andThen_ok, Sem.run_pure]) (hK _ _ (Below.refl _ _) rfl))
                | 6, hop =>
                  obtain rfl := Option.some.inj hop
                  have tq : a.tmps.getD 3 undef = .pointer (some ⟨w.heap.size + 1, 0, none⟩) := hsl 3 rfl
                  exact .plain rfl (wp_val (w' := wa) (v := (.pointer (some ⟨w.heap.size + 1, 4, none⟩))) (by simp only [execOp, Act.eval]; rw [show a.tmps.getD 3 undef = _ from tq]; kernel_rfl) (hK _ _ (Below.refl _ _) rfl))
                | 7, hop =>
                  obtain rfl := Option.some.inj hop
                  have t6 : a.tmps.getD 76 undef = (.pointer (some ⟨w.heap.size + 1, 4, none⟩)) := hdep 6 _ 76 rfl rfl ⟨⟨6, .data⟩, by simp, rfl, rfl⟩
                  have hc := (hwa.cell (p := ⟨w.heap.size + 1, 4, none⟩) (show w.heap.size + 1 < wr.heap.size from (Array.getElem?_eq_some_iff.1 hbs.out).1)).trans d4
                  exact .plain rfl (wp_val (w' := wa) (v := (.slice (some ⟨b', o', none⟩) cp'.length pc')) (by simp only [execOp, Act.eval]; rw [show a.tmps.getD 76 undef = _ from t6]; simp only [Sem.run_bind, ld_sP hc, Result.andThen_ok, Sem.run_pure]) (hK _ _ (Below.refl _ _) rfl))
                | 8, hop =>
                  obtain rfl := Option.some.inj hop
                  have tq : a.tmps.getD 6 undef = (.int .i64 (i : Nat)) := hsl 6 rfl
                  exact .plain rfl (wp_val (w' := wa) (v := (.int .i64 (i : Nat))) (by simp only [execOp, Act.eval]; rw [show a.tmps.getD 6 undef = _ from tq]; rfl) (hK _ _ (Below.refl _ _) rfl))
                | 9, hop =>
                  obtain rfl := Option.some.inj hop
                  have t7 : a.tmps.getD 77 undef = (.slice (some ⟨b', o', none⟩) cp'.length pc') := hdep 7 _ 77 rfl rfl ⟨⟨7, .data⟩, by simp, rfl, rfl⟩
                  have t8 : a.tmps.getD 78 undef = (.int .i64 (i : Nat)) := hdep 8 _ 78 rfl rfl ⟨⟨8, .data⟩, by simp, rfl, rfl⟩
                  exact .plain rfl (wp_val (w' := wa) (v := (.pointer (some ⟨b', o' + i * 6, none⟩))) (by simp only [execOp, Act.eval]; rw [show a.tmps.getD 77 undef = _ from t7, show a.tmps.getD 78 undef = _ from t8]; simp only [Sem.run_bind, ix_oP hlt', Result.andThen_ok, Sem.run_pure]) (hK _ _ (Below.refl _ _) rfl))
                | 10, hop =>
                  obtain rfl := Option.some.inj hop
                  have t9 : a.tmps.getD 79 undef = (.pointer (some ⟨b', o' + i * 6, none⟩)) := hdep 9 _ 79 rfl rfl ⟨⟨9, .data⟩, by simp, rfl, rfl⟩
                  exact .plain rfl (wp_val (w' := wa) (v := (.pointer (some ⟨b', o' + i * 6, none⟩))) (by simp only [execOp, Act.eval]; rw [show a.tmps.getD 79 undef = _ from t9]; kernel_rfl) (hK _ _ (Below.refl _ _) rfl))
                | 11, hop =>
                  obtain rfl := Option.some.inj hop
                  have t10 : a.tmps.getD 80 undef = (.pointer (some ⟨b', o' + i * 6, none⟩)) := hdep 10 _ 80 rfl rfl ⟨⟨10, .data⟩, by simp, rfl, rfl⟩
                  have hc : wa.cell? ⟨b', o' + i * 6, none⟩ = some (.string (st u'.1)) := by
                    rw [World.cell?_of_block (w := w) (hBa.block b' hbl')]
                    exact hr'.out 0 _ rfl
                  exact .plain rfl (wp_val (w' := wa) (v := (.string (st u'.1))) (by simp only [execOp, Act.eval]; rw [show a.tmps.getD 80 undef = _ from t10]; simp only [Sem.run_bind, ld_s0 hc, Result.andThen_ok, Sem.run_pure]) (hK _ _ (Below.refl _ _) rfl))
                | 12, hop =>
                  obtain rfl := Option.some.inj hop
                  have t5 : a.tmps.getD 75 undef = (.string (st u.1)) := hdep 5 _ 75 rfl rfl ⟨⟨5, .data⟩, by simp, rfl, rfl⟩
                  have t11 : a.tmps.getD 81 undef = (.string (st u'.1)) := hdep 11 _ 81 rfl rfl ⟨⟨11, .data⟩, by simp, rfl, rfl⟩
                  exact .plain rfl (wp_val (w' := wa) (v := (.bool false)) (by simp only [execOp, Act.eval]; rw [show a.tmps.getD 75 undef = _ from t5, show a.tmps.getD 81 undef = _ from t11]; simp only [Sem.run_bind, eg_s, nq_s, decide_eq_true hnm, Bool.not_true, Result.andThen_ok, Sem.run_pure]) (hK _ _ (Below.refl _ _) rfl))
                | 13, hop =>
                  obtain rfl := Option.some.inj hop
                  have t12 : a.tmps.getD 82 undef = (.bool false) := hdep 12 _ 82 rfl rfl ⟨⟨12, .data⟩, by simp, rfl, rfl⟩
                  exact .plain rfl (wp_val (w' := wa) (v := (.bool false)) (by simp only [execOp, Act.eval]; rw [show a.tmps.getD 82 undef = _ from t12]; rfl) (hK _ _ (Below.refl _ _) rfl))
                | 14, hop =>
                  obtain rfl := Option.some.inj hop
                  have g13 : a.tmps.getD 83 undef = .bool false := hdep 13 _ 83 rfl rfl ⟨⟨13, .guard⟩, by simp, rfl, rfl⟩
                  have tq : a.tmps.getD 2 undef = .pointer (some ⟨w.heap.size, 0, none⟩) := hsl 2 rfl
                  exact .want rfl rfl hz83 g13 (wp_val (w' := wa) (v := (.pointer (some ⟨w.heap.size, 4, none⟩))) (by simp only [execOp, Act.eval]; rw [show a.tmps.getD 2 undef = _ from tq]; kernel_rfl) (hK _ _ (Below.refl _ _) rfl))
                | 15, hop =>
                  obtain rfl := Option.some.inj hop
                  have g13 : a.tmps.getD 83 undef = .bool false := hdep 13 _ 83 rfl rfl ⟨⟨13, .guard⟩, by simp, rfl, rfl⟩
                  have t14 : a.tmps.getD 84 undef = (.pointer (some ⟨w.heap.size, 4, none⟩)) := hdep 14 _ 84 rfl rfl ⟨⟨14, .data⟩, by simp, rfl, rfl⟩
                  have hc := (hwa.cell (p := ⟨w.heap.size, 4, none⟩) (show w.heap.size < wr.heap.size from (Array.getElem?_eq_some_iff.1 hbr.out).1)).trans c4
                  exact .want rfl rfl hz83 g13 (wp_val (w' := wa) (v := (.slice (some ⟨b, o, none⟩) cp.length pc)) (by simp only [execOp, Act.eval]; rw [show a.tmps.getD 84 undef = _ from t14]; simp only [Sem.run_bind, ld_sP hc, Result.andThen_ok, Sem.run_pure]) (hK _ _ (Below.refl _ _) rfl))
                | 16, hop =>
                  obtain rfl := Option.some.inj hop
                  have g13 : a.tmps.getD 83 undef = .bool false := hdep 13 _ 83 rfl rfl ⟨⟨13, .guard⟩, by simp, rfl, rfl⟩
                  have tq : a.tmps.getD 6 undef = (.int .i64 (i : Nat)) := hsl 6 rfl
                  exact .want rfl rfl hz83 g13 (wp_val (w' := wa) (v := (.int .i64 (i : Nat))) (by simp only [execOp, Act.eval]; rw [show a.tmps.getD 6 undef = _ from tq]; rfl) (hK _ _ (Below.refl _ _) rfl))
                | 17, hop =>
                  obtain rfl := Option.some.inj hop
                  have g13 : a.tmps.getD 83 undef = .bool false := hdep 13 _ 83 rfl rfl ⟨⟨13, .guard⟩, by simp, rfl, rfl⟩
                  have t15 : a.tmps.getD 85 undef = (.slice (some ⟨b, o, none⟩) cp.length pc) := hdep 15 _ 85 rfl rfl ⟨⟨15, .data⟩, by simp, rfl, rfl⟩
                  have t16 : a.tmps.getD 86 undef = (.int .i64 (i : Nat)) := hdep 16 _ 86 rfl rfl ⟨⟨16, .data⟩, by simp, rfl, rfl⟩
                  exact .want rfl rfl hz83 g13 (wp_val (w' := wa) (v := (.pointer (some ⟨b, o + i * 6, none⟩))) (by simp only [execOp, Act.eval]; rw [show a.tmps.getD 85 undef = _ from t15, show a.tmps.getD 86 undef = _ from t16]; simp only [Sem.run_bind, ix_oP hlt, Result.andThen_ok, Sem.run_pure]) (hK _ _ (Below.refl _ _) rfl))
                | 18, hop =>
                  obtain rfl := Option.some.inj hop
                  have g13 : a.tmps.getD 83 undef = .bool false := hdep 13 _ 83 rfl rfl ⟨⟨13, .guard⟩, by simp, rfl, rfl⟩
                  have t17 : a.tmps.getD 87 undef = (.pointer (some ⟨b, o + i * 6, none⟩)) := hdep 17 _ 87 rfl rfl ⟨⟨17, .data⟩, by simp, rfl, rfl⟩
                  exact .want rfl rfl hz83 g13 (wp_val (w' := wa) (v := (.pointer (some ⟨b, o + i * 6 + 1, none⟩))) (by simp only [execOp, Act.eval]; rw [show a.tmps.getD 87 undef = _ from t17]; kernel_rfl) (hK _ _ (Below.refl _ _) rfl))
                | 19, hop =>
                  obtain rfl := Option.some.inj hop
                  have g13 : a.tmps.getD 83 undef = .bool false := hdep 13 _ 83 rfl rfl ⟨⟨13, .guard⟩, by simp, rfl, rfl⟩
                  have t18 : a.tmps.getD 88 undef = (.pointer (some ⟨b, o + i * 6 + 1, none⟩)) := hdep 18 _ 88 rfl rfl ⟨⟨18, .data⟩, by simp, rfl, rfl⟩
                  have hrr : wa.rangeAt b (o + i * 6 + 1) [x1, x2, x3, x4, x5] := fun q v hq => by
                    rw [World.cell?_of_block (w := w) (hBa.block b hbl)]
                    have := hr.out (q + 1) v (by simpa using hq)
                    rw [show o + i * 6 + 1 + q = o + i * 6 + (q + 1) by omega]
                    exact this
                  exact .want rfl rfl hz83 g13 (wp_val (w' := wa) (v := (.agg #[x1, x2, x3, x4, x5])) (by simp only [execOp, Act.eval]; rw [show a.tmps.getD 88 undef = _ from t18]; simp only [Sem.run_bind, ld_mV hrr, Result.andThen_ok, Sem.run_pure]) (hK _ _ (Below.refl _ _) rfl))
                | 20, hop =>
                  obtain rfl := Option.some.inj hop
                  have g13 : a.tmps.getD 83 undef = .bool false := hdep 13 _ 83 rfl rfl ⟨⟨13, .guard⟩, by simp, rfl, rfl⟩
                  have tq : a.tmps.getD 3 undef = .pointer (some ⟨w.heap.size + 1, 0, none⟩) := hsl 3 rfl
                  exact .want rfl rfl hz83 g13 (wp_val (w' := wa) (v := (.pointer (some ⟨w.heap.size + 1, 4, none⟩))) (by simp only [execOp, Act.eval]; rw [show a.tmps.getD 3 undef = _ from tq]; kernel_rfl) (hK _ _ (Below.refl _ _) rfl))
                | 21, hop =>
                  obtain rfl := Option.some.inj hop
                  have g13 : a.tmps.getD 83 undef = .bool false := hdep 13 _ 83 rfl rfl ⟨⟨13, .guard⟩, by simp, rfl, rfl⟩
                  have t20 : a.tmps.getD 90 undef = (.pointer (some ⟨w.heap.size + 1, 4, none⟩)) := hdep 20 _ 90 rfl rfl ⟨⟨20, .data⟩, by simp, rfl, rfl⟩
                  have hc := (hwa.cell (p := ⟨w.heap.size + 1, 4, none⟩) (show w.heap.size + 1 < wr.heap.size from (Array.getElem?_eq_some_iff.1 hbs.out).1)).trans d4
                  exact .want rfl rfl hz83 g13 (wp_val (w' := wa) (v := (.slice (some ⟨b', o', none⟩) cp'.length pc')) (by simp only [execOp, Act.eval]; rw [show a.tmps.getD 90 undef = _ from t20]; simp only [Sem.run_bind, ld_sP hc, Result.andThen_ok, Sem.run_pure]) (hK _ _ (Below.refl _ _) rfl))
                | 22, hop =>
                  obtain rfl := Option.some.inj hop
                  have g13 : a.tmps.getD 83 undef = .bool false := hdep 13 _ 83 rfl rfl ⟨⟨13, .guard⟩, by simp, rfl, rfl⟩
                  have tq : a.tmps.getD 6 undef = (.int .i64 (i : Nat)) := hsl 6 rfl
                  exact .want rfl rfl hz83 g13 (wp_val (w' := wa) (v := (.int .i64 (i : Nat))) (by simp only [execOp, Act.eval]; rw [show a.tmps.getD 6 undef = _ from tq]; rfl) (hK _ _ (Below.refl _ _) rfl))
                | 23, hop =>
                  obtain rfl := Option.some.inj hop
                  have g13 : a.tmps.getD 83 undef = .bool false := hdep 13 _ 83 rfl rfl ⟨⟨13, .guard⟩, by simp, rfl, rfl⟩
                  have t21 : a.tmps.getD 91 undef = (.slice (some ⟨b', o', none⟩) cp'.length pc') := hdep 21 _ 91 rfl rfl ⟨⟨21, .data⟩, by simp, rfl, rfl⟩
                  have t22 : a.tmps.getD 92 undef = (.int .i64 (i : Nat)) := hdep 22 _ 92 rfl rfl ⟨⟨22, .data⟩, by simp, rfl, rfl⟩
                  exact .want rfl rfl hz83 g13 (wp_val (w' := wa) (v := (.pointer (some ⟨b', o' + i * 6, none⟩))) (by simp only [execOp, Act.eval]; rw [show a.tmps.getD 91 undef = _ from t21, show a.tmps.getD 92 undef = _ from t22]; simp only [Sem.run_bind, ix_oP hlt', Result.andThen_ok, Sem.run_pure]) (hK _ _ (Below.refl _ _) rfl))
                | 24, hop =>
                  obtain rfl := Option.some.inj hop
                  have g13 : a.tmps.getD 83 undef = .bool false := hdep 13 _ 83 rfl rfl ⟨⟨13, .guard⟩, by simp, rfl, rfl⟩
                  have t23 : a.tmps.getD 93 undef = (.pointer (some ⟨b', o' + i * 6, none⟩)) := hdep 23 _ 93 rfl rfl ⟨⟨23, .data⟩, by simp, rfl, rfl⟩
                  exact .want rfl rfl hz83 g13 (wp_val (w' := wa) (v := (.pointer (some ⟨b', o' + i * 6 + 1, none⟩))) (by simp only [execOp, Act.eval]; rw [show a.tmps.getD 93 undef = _ from t23]; kernel_rfl) (hK _ _ (Below.refl _ _) rfl))
                | 25, hop =>
                  obtain rfl := Option.some.inj hop
                  have g13 : a.tmps.getD 83 undef = .bool false := hdep 13 _ 83 rfl rfl ⟨⟨13, .guard⟩, by simp, rfl, rfl⟩
                  have t24 : a.tmps.getD 94 undef = (.pointer (some ⟨b', o' + i * 6 + 1, none⟩)) := hdep 24 _ 94 rfl rfl ⟨⟨24, .data⟩, by simp, rfl, rfl⟩
                  have hrr : wa.rangeAt b' (o' + i * 6 + 1) [z1, z2, z3, z4, z5] := fun q v hq => by
                    rw [World.cell?_of_block (w := w) (hBa.block b' hbl')]
                    have := hr'.out (q + 1) v (by simpa using hq)
                    rw [show o' + i * 6 + 1 + q = o' + i * 6 + (q + 1) by omega]
                    exact this
                  exact .want rfl rfl hz83 g13 (wp_val (w' := wa) (v := (.agg #[z1, z2, z3, z4, z5])) (by simp only [execOp, Act.eval]; rw [show a.tmps.getD 94 undef = _ from t24]; simp only [Sem.run_bind, ld_mV hrr, Result.andThen_ok, Sem.run_pure]) (hK _ _ (Below.refl _ _) rfl))
                | 26, hop =>
                  obtain rfl := Option.some.inj hop
                  have g13 : a.tmps.getD 83 undef = .bool false := hdep 13 _ 83 rfl rfl ⟨⟨13, .guard⟩, by simp, rfl, rfl⟩
                  have t19 : a.tmps.getD 89 undef = (.agg #[x1, x2, x3, x4, x5]) := hdep 19 _ 89 rfl rfl ⟨⟨19, .data⟩, by simp, rfl, rfl⟩
                  have t25 : a.tmps.getD 95 undef = (.agg #[z1, z2, z3, z4, z5]) := hdep 25 _ 95 rfl rfl ⟨⟨25, .data⟩, by simp, rfl, rfl⟩
                  have hcal := ih (c := [x1, x2, x3, x4, x5]) (c' := [z1, z2, z3, z4, z5]) hhu (VA.frame (c := [x1, x2, x3, x4, x5]) hxu.out (w' := wa) (G := F) (fun j _ hj => hBa.block j hj) (fun _ h _ => h)) (VA.frame (c := [z1, z2, z3, z4, z5]) hxu'.out (w' := wa) (G := G) (fun j _ hj => hBa.block j hj) (fun _ h _ => h))
                  refine .want rfl rfl hz83 g13 (oper_any (J := fun r w' => r = .bool (exB h u.2 u'.2) ∧ Below wa.heap.size wa w') 12 #[.tmp 89, .tmp 95] _ rfl #[.agg #[x1, x2, x3, x4, x5], .agg #[z1, z2, z3, z4, z5]] (by simp only [List.map_toArray, List.map_cons, List.map_nil, Act.eval]; rw [show a.tmps.getD 89 undef = _ from t19, show a.tmps.getD 95 undef = _ from t25]) (fun w => by kernel_rfl) (hcal.mono fun e w' h => ⟨_, h.1, rfl, h.2⟩) ?_)
                  rintro r w' ⟨rfl, hb⟩
                  exact hK _ _ hb rfl
                | 27, hop =>
                  obtain rfl := Option.some.inj hop
                  have g13 : a.tmps.getD 83 undef = .bool false := hdep 13 _ 83 rfl rfl ⟨⟨13, .guard⟩, by simp, rfl, rfl⟩
                  have t26 : a.tmps.getD 96 undef = (.bool (exB h u.2 u'.2)) := hdep 26 _ 96 rfl rfl ⟨⟨26, .data⟩, by simp, rfl, rfl⟩
                  exact .want rfl rfl hz83 g13 (wp_val (w' := wa) (v := (.bool (!exB h u.2 u'.2))) (by simp only [execOp, Act.eval]; rw [show a.tmps.getD 96 undef = _ from t26]; kernel_rfl) (hK _ _ (Below.refl _ _) rfl))
                | 28, _ => exact absurd rfl hj
                | _ + 29, hop => exact absurd hop (by simp)
            · intro a wa hwa hdf hsz hsl hrr K hK
              have g13 : a.tmps.getD 83 undef = (.bool false) := hrr 13 _ 83 rfl (by decide) rfl
              have g27 : a.tmps.getD 97 undef = (.bool (!exB h u.2 u'.2)) := hrr 27 _ 97 rfl (by decide) rfl
              have hbw2 := hide1 (hbw.out.trans (hwa.mono hbw.out.size))
              refine .plain rfl (wp_val (w' := wa) (v := (.bool (!exB h u.2 u'.2))) (by simp only [execOp, Act.eval]; rw [show a.tmps.getD 83 undef = _ from g13, show a.tmps.getD 97 undef = _ from g27]; rfl) ?_)
              refine hK _ wa ?_
              have hact := act_puts hdf hsz hsl
              have hBf := hide1 (hB.out.trans (hwa.mono hB.out.size))
              clear hrr hsl hdf hsz hK g13 g27 ih
              simp only [List.filterMap_cons, List.filterMap_nil, List.foldl_cons, List.foldl_nil] at hact
              rw [hact]
              generalize a.tmps.getD 70 undef = y70
              generalize a.tmps.getD 71 undef = y71
              generalize a.tmps.getD 72 undef = y72
              generalize a.tmps.getD 73 undef = y73
              generalize a.tmps.getD 74 undef = y74
              generalize a.tmps.getD 75 undef = y75
              generalize a.tmps.getD 76 undef = y76
              generalize a.tmps.getD 77 undef = y77
              generalize a.tmps.getD 78 undef = y78
              generalize a.tmps.getD 79 undef = y79
              generalize a.tmps.getD 80 undef = y80
              generalize a.tmps.getD 81 undef = y81
              generalize a.tmps.getD 82 undef = y82
              generalize a.tmps.getD 83 undef = y83
              generalize a.tmps.getD 84 undef = y84
              generalize a.tmps.getD 85 undef = y85
              generalize a.tmps.getD 86 undef = y86
              generalize a.tmps.getD 87 undef = y87
              generalize a.tmps.getD 88 undef = y88
              generalize a.tmps.getD 89 undef = y89
              generalize a.tmps.getD 90 undef = y90
              generalize a.tmps.getD 91 undef = y91
              generalize a.tmps.getD 92 undef = y92
              generalize a.tmps.getD 93 undef = y93
              generalize a.tmps.getD 94 undef = y94
              generalize a.tmps.getD 95 undef = y95
              generalize a.tmps.getD 96 undef = y96
              generalize a.tmps.getD 97 undef = y97
              generalize a.tmps.getD 98 undef = y98
              clear hact a
              rw [decide_eq_true hnm, Bool.true_and] at hms
              cases hex : exB h u.2 u'.2 with
              | true =>
                rw [hex, Bool.true_and] at hms
                refine (‹∀ (a : Act) (w : World), Code.wp Tryz.prog _ _ a w → _›) _ wa ?_
                simp only [Bool.not_true, Act.put, List.setIfInBounds_toArray, List.set_cons_succ, List.set_cons_zero]
                go_wp2
                go_roundw
                case rel => exact ⟨i + 1, rfl, by omega, hide1 hms.out.symm, hbw2⟩
                case measure => simp [intOf]; omega
              | false =>
                rw [hex, Bool.false_and] at hms
                refine (‹∀ (a : Act) (w : World), Code.wp Tryz.prog _ _ a w → _›) _ wa ?_
                have hf : Hid ((Ending.returned (.bool false) : Ending) = .returned (.bool E) ∧ Below w.heap.size w wa) := hide1 ⟨hout.out _ (by rw [hE3.out, hms.out]), hBf.out⟩
                simp only [Bool.not_false, Act.put, List.setIfInBounds_toArray, List.set_cons_succ, List.set_cons_zero]
                go_wp2
                go_ret
                exact hf.out
          · have hie : i = cp.length := by omega
            subst hie
            clear hlt
            have hf : Hid ((Ending.returned (.bool true) : Ending) = .returned (.bool E) ∧ Below w.heap.size w wr) := hide1 ⟨hout.out _ (by
              rw [hE3.out, ← hme.out, List.drop_of_length_le (by have := e2.out; omega)]
              cases p'.drop cp.length <;> rfl), hB.out⟩
            go_wp2
            go_ret
            exact hf.out
theorem ex_d : ∀ h, Eok h
  | 0 => fun hh => hh.elim
  | h + 1 => ex_s (ex_d h)
end Go.Proofs.YtkkgcbaofdejjaaGreatDoor

namespace Go.Proofs.YtkkgcbaofdejjaaGreatDoor
open Go.RowKit

theorem fd_drop {l : List (List UInt8 × T)} {i : Nat} {a : List UInt8 × T} {n : List UInt8} (ha : l[i]? = some a) : (l.drop i).find? (fun q => q.1 == n) = if a.1 = n then some a else (l.drop (i + 1)).find? (fun q => q.1 == n) := by
  obtain ⟨h1, e1⟩ := List.getElem?_eq_some_iff.1 ha
  rw [List.drop_eq_getElem_cons h1, e1, List.find?_cons]
  by_cases h : a.1 = n
  · simp [h]
  · rw [if_neg h]
    have : (a.1 == n) = false := by simpa using h
    rw [this]
/-- What the reference's Get answers. -/
def AnH (F : Nat → Prop) (w : World) (o : Option T) (e : Ending) (w' : World) : Prop :=
  ∃ c : Array Value, e = .returned (.tuple #[.agg c, .bool o.isSome]) ∧ Below w.heap.size w w' ∧ ((∃ t, o = some t ∧ VA F w' t c.toList) ∨ (o = none ∧ c = zV))
set_option maxHeartbeats 4000000 in
set_option maxRecDepth 100000 in
theorem get_r {F : Nat → Prop} {w : World} {k ki : Int} {s nm : List UInt8} {l : List T} {p : List (List UInt8 × T)} {c : List Value} (hb : p.length ≤ 1000000) (hv : VA F w (.mk k ki s l p) c) : Calls Tryz.prog 27 #[.agg c.toArray, .string (st nm)] w (AnH F w (getP k p nm)) := by
  cases hv with
  | @mk _ _ _ _ _ sl sp cl cp r1 r2 e1 e2 hl hp1 hp2 =>
    obtain ⟨pa, pc, rfl⟩ : ∃ va vc, sp = .slice va cp.length vc := by
      obtain ⟨_, ⟨a, cap, h1, h2⟩ | ⟨b, o, cap, cur, fz, h1, _⟩⟩ := r2
      · exact ⟨a, cap, by rw [h1, h2]; rfl⟩
      · exact ⟨_, cap, h1⟩
    obtain ⟨wb, hwb⟩ : ∃ wb, wb = (w.alloc (.cells #[.int .i64 k, .int .i64 ki, .string (st s), sl, .slice pa cp.length pc] 28)).alloc (.cells zV 28) := ⟨_, rfl⟩
    have hb0 : Below w.heap.size w wb := by rw [hwb]; exact blw_al ((Below.refl _ _).alloc (Nat.le_refl _) _) (by simp) _
    have hbx : wb.heap[w.heap.size]? = some (.cells #[.int .i64 k, .int .i64 ki, .string (st s), sl, .slice pa cp.length pc] 28 (0, 0)) := by
      rw [hwb]
      show ((w.heap.push _).push _)[w.heap.size]? = _
      rw [Array.getElem?_push, if_neg (by simp), Array.getElem?_push, if_pos rfl]
    have hby : wb.heap[w.heap.size + 1]? = some (.cells zV 28 (0, 0)) := by
      rw [hwb]
      show ((w.heap.push _).push _)[w.heap.size + 1]? = _
      rw [Array.getElem?_push, if_pos (by simp)]
    have hsb : wb.heap.size = w.heap.size + 2 := by rw [hwb]; simp
    have hcb : cp.length ≤ 1000000 := by omega
    unfold zV at hwb
    replace hb0 := hide1 hb0
    replace hbx := hide1 hbx
    replace hby := hide1 hby
    replace hsb := hide1 hsb
    replace e2 := hide1 e2
    have hG : Hid (getP k p nm = if k = 5 then (p.find? (fun q => q.1 == nm)).map (·.2) else none) := hide1 rfl
    generalize getP k p nm = E at *
    clear hb
    go_enter Tryz.func27, Tryz.ntmps27
    go_wp2_with fail
    rw [← hwb]
    clear hwb
    go_loopw [6] (fun x wr => ∃ i : Nat, x = .int .i64 (i : Nat) ∧ i ≤ cp.length ∧ wr = wb ∧ Hid ((p.drop i).find? (fun q => q.1 == nm) = p.find? (fun q => q.1 == nm))) (fun x _ => cp.length - (intOf x).toNat)
    case atStart => exact ⟨0, rfl, by omega, rfl, hide1 rfl⟩
    case round =>
      obtain ⟨i, rfl, hin, rfl, hme⟩ := hrel
      have hbr := hbx.out
      have hr4 := hby.out
      have c0 : wr.cell? ⟨w.heap.size, 0, none⟩ = some (.int .i64 k) := by simp only [World.cell?, hbr]; rfl
      have c4 : wr.cell? ⟨w.heap.size, 4, none⟩ = some (.slice pa cp.length pc) := by simp only [World.cell?, hbr]; rfl
      have hend : (i < cp.length → k ≠ 5) → Hid (AnH F w E (.returned (.tuple #[.agg zV, .bool false])) (wr.setRow (w.heap.size + 1) zV)) := fun h => hide1 (by
        have hE : E = none := by
          rw [hG.out]
          split
          · rename_i h5
            have : ¬ i < cp.length := fun hh => h hh h5
            rw [← hme.out, List.drop_of_length_le (by have := e2.out; omega)]; rfl
          · rfl
        rw [hE]
        exact ⟨zV, rfl, blw_own hb0.out (by omega) _, .inr ⟨rfl, rfl⟩⟩)
      have hz := setRow_heap wr (w.heap.size + 1) _ zV _ _ hr4
      unfold zV at hend hz
      by_cases hlt : i < cp.length
      · by_cases hk5 : k = 5
        · subst hk5
          obtain ⟨x, hx⟩ : ∃ x, cp[i]? = some x := ⟨_, List.getElem?_eq_getElem hlt⟩
          obtain ⟨u, hu⟩ : ∃ u, p[i]? = some u := ⟨_, List.getElem?_eq_getElem (by have := e2.out; omega)⟩
          have hxn := hp1 i u x hu hx
          have hxu := hp2 i u x hu hx
          obtain ⟨b, o, cap, hve, -, hbl, hr⟩ := r2.at hx
          have hva : pa = some ⟨b, o, none⟩ := by cases hve; rfl
          subst hva
          obtain ⟨x0, x1, x2, x3, x4, x5, rfl⟩ := arr6 (r2.1 x (List.mem_of_getElem? hx))
          simp only [List.head?_cons, Option.some.injEq] at hxn
          subst hxn
          have hms := fd_drop (n := nm) hu
          rw [hme.out] at hms
          have hc : wr.cell? ⟨b, o + i * 6, none⟩ = some (.string (st u.1)) := by
            rw [World.cell?_of_block (w := w) (hb0.out.block b hbl)]
            exact hr 0 _ rfl
          have hr2 : wr.rangeAt b (o + i * 6 + 1) [x1, x2, x3, x4, x5] := fun q v hj => by
            rw [World.cell?_of_block (w := w) (hb0.out.block b hbl)]
            have := hr (q + 1) v (by simpa using hj)
            rw [show o + i * 6 + 1 + q = o + i * 6 + (q + 1) by omega]
            exact this
          have hs1 := st_eq u.1 nm
          by_cases hn : u.1 = nm
          · have hq : ((st u.1).toList == (st nm).toList) = true := by rw [hs1]; exact decide_eq_true hn
            have ha : Hid (AnH F w E (.returned (.tuple #[.agg #[x1, x2, x3, x4, x5], .bool true])) (wr.setRow (w.heap.size + 1) #[x1, x2, x3, x4, x5])) := hide1 (by
              have hE : E = some u.2 := by rw [hG.out, if_pos rfl, hms, if_pos hn]; rfl
              rw [hE]
              refine ⟨_, rfl, blw_own hb0.out (by omega) _, .inl ⟨_, rfl, VA.frame (c := [x1, x2, x3, x4, x5]) hxu (fun j _ hj => ?_) (fun _ h _ => h)⟩⟩
              exact (setRow_other wr _ j _ (by omega)).trans (hb0.out.block j hj))
            have hz2 := hide1 (setRow_heap wr (w.heap.size + 1) _ #[x1, x2, x3, x4, x5] _ _ hr4)
            have ho := hide1 (show (#[x1, x2, x3, x4, x5].all fun x => x.oneCell') = true by simpa using VA.one (c := [x1, x2, x3, x4, x5]) hxu)
            clear hms hs1 hme hxu hr hz hend hve hx hu hn
            go_wp2_with (first
              | refine wpList_load_mid rfl 28 (.tmp 31) rfl b (o + i * 6 + 1) rfl [x1, x2, x3, x4, x5] _ hr2 Tryz.underlying28 rfl (by kernel_rfl) ?_
              | refine wpList_store_row rfl Vt (.tmp 4) (.tmp 32) rfl (w.heap.size + 1) #[x1, x2, x3, x4, x5] rfl rfl Vt _ hr4 (by kernel_rfl) rfl ho.out ?_)
            refine bodyPost_ret (results_vt rfl _ rfl rfl hz2.out) rfl ?_
            exact ha.out
          · have hq : ((st u.1).toList == (st nm).toList) = false := by rw [hs1]; exact decide_eq_false hn
            rw [if_neg hn] at hms
            replace hms := hide1 hms
            clear hs1 hme hxu hr hz hend hve hx hu hn hr2
            go_wp2
            go_roundw
            case rel => exact ⟨i + 1, rfl, by omega, trivial, hide1 hms.out.symm⟩
            case measure => simp [intOf]; omega
        · have hk : (k == 5) = false := by simpa using hk5
          replace hend := hend fun _ => hk5
          replace hz := hide1 hz
          clear hme
          go_wp2_with (refine wpList_store_row rfl Vt (.tmp 4) (.tmp 33) rfl (w.heap.size + 1) #[.int .i64 0, .int .i64 0, .string ⟨#[]⟩, .slice none 0 0, .slice none 0 0] rfl rfl Vt _ hr4 (by kernel_rfl) rfl (by kernel_rfl) ?_)
          refine bodyPost_ret (results_vt rfl _ rfl rfl hz.out) rfl ?_
          exact hend.out
      · replace hend := hend fun h => absurd h hlt
        have hie : i = cp.length := by omega
        subst hie
        replace hz := hide1 hz
        clear hme hlt
        go_wp2_with (refine wpList_store_row rfl Vt (.tmp 4) (.tmp 33) rfl (w.heap.size + 1) #[.int .i64 0, .int .i64 0, .string ⟨#[]⟩, .slice none 0 0, .slice none 0 0] rfl rfl Vt _ hr4 (by kernel_rfl) rfl (by kernel_rfl) ?_)
        refine bodyPost_ret (results_vt rfl _ rfl rfl hz.out) rfl ?_
        exact hend.out
end Go.Proofs.YtkkgcbaofdejjaaGreatDoor

namespace Go.Proofs.YtkkgcbaofdejjaaGreatDoor
open Go.RowKit

theorem mnL_all {f : T → Nat → Nat} {last : Nat} (hf : ∀ t k, 1 ≤ f t k) : ∀ (l : List T) (n : Nat), 1 ≤ n → mnL f last l n ≤ last → (∀ t ∈ l, ∃ k, k + 1 ≤ last ∧ f t k ≤ k) ∧ n + l.length ≤ last
  | [], n, _, h => ⟨by simp, h⟩
  | t :: r, n, hn, h => by
    unfold mnL at h
    split at h
    · rename_i hl
      have h1 := mnL_ge (f := f) (last := last) r (n + f t (last - n))
      have h2 := hf t (last - n)
      obtain ⟨h3, h4⟩ := mnL_all hf r _ (by omega) h
      refine ⟨fun u hu => ?_, by simp; omega⟩
      rcases List.mem_cons.1 hu with rfl | hu
      · exact ⟨last - n, by omega, by omega⟩
      · exact h3 u hu
    · omega
theorem hgt_mono : ∀ {n m : Nat} {t : T}, n ≤ m → hgt n t → hgt m t
  | 0, _, _, _, h => h.elim
  | n + 1, 0, _, hm, _ => absurd hm (by omega)
  | n + 1, m + 1, .mk _ _ _ l p, hm, h => ⟨h.1, h.2.1, fun t ht' => hgt_mono (by omega) (h.2.2.1 t ht'), fun q hq => hgt_mono (by omega) (h.2.2.2 q hq)⟩
theorem mny_hgt : ∀ {h last : Nat} {t : T}, ht h t → last ≤ 1000000 → mny h t last ≤ last → hgt last t
  | 0, _, _, hh, _, _ => hh.elim
  | h + 1, 0, t, _, _, hm => by
    have := mny_pos (h + 1) t 0
    omega
  | h + 1, m + 1, .mk k i s l p, hh, hl, hm => by
    unfold mny at hm
    have h1 := mnL_ge (f := mny h) (last := m + 1) (p.map (·.2)) (mnL (mny h) (m + 1) l 1)
    obtain ⟨a1, a2⟩ := mnL_all (mny_pos h) l 1 (Nat.le_refl _) (Nat.le_trans h1 hm)
    obtain ⟨c1, c2⟩ := mnL_all (mny_pos h) (p.map (·.2)) _ (mnL_ge l 1) hm
    rw [List.length_map] at c2
    refine ⟨by omega, by omega, fun t ht' => ?_, fun q hq => ?_⟩
    · obtain ⟨j, hj, hj2⟩ := a1 t ht'
      exact hgt_mono (by omega) (mny_hgt (hh.1 t ht') (by omega) hj2)
    · obtain ⟨j, hj, hj2⟩ := c1 q.2 (List.mem_map.2 ⟨q, hq, rfl⟩)
      exact hgt_mono (by omega) (mny_hgt (hh.2 q hq) (by omega) hj2)
/-- The value of nothing, anywhere. -/
def tz : T := .mk 0 0 [] [] []
theorem zV_is {F : Nat → Prop} {w : World} : VA F w tz zV.toList :=
  VA.mk (cl := []) (cp := []) ⟨by simp, .inl ⟨none, 0, rfl, rfl⟩⟩ ⟨by simp, .inl ⟨none, 0, rfl, rfl⟩⟩ rfl rfl (by simp) (by simp) (by simp)
theorem tz_hgt : hgt 1 tz := ⟨by simp, by simp, by simp, by simp⟩
end Go.Proofs.YtkkgcbaofdejjaaGreatDoor

namespace Go.Proofs.YtkkgcbaofdejjaaGreatDoor
open Go.ChangeShapes Go.WideShapes Go.ChangeAt Go.RowKit

section
variable {H : Type} {enc : TypeId × Value → H} {W : World} {held : Bool}
theorem five_l {α : Type} : ∀ {l : List α}, l.length = 5 → ∃ a b c d e, l = [a, b, c, d, e]
  | [a, b, c, d, e], _ => ⟨a, b, c, d, e, rfl⟩
theorem two_l {α : Type} : ∀ {l : List α}, l.length = 2 → ∃ a b, l = [a, b]
  | [a, b], _ => ⟨a, b, rfl⟩
theorem six_l {α : Type} : ∀ {l : List α}, l.length = 6 → ∃ a r, l = a :: r ∧ r.length = 5
  | a :: r, h => ⟨a, r, rfl, by simpa using h⟩
/-- A row whose elements' cells are read. -/
theorem row_in {e : TypeId} {z len cap : Nat} {a : Addr} (hz : 0 < z) {f : Nat → List Value} (h : ∀ i, i < len → (f i).length = z ∧ ∀ j, j < z → W.cell? (a.add (i * z + j)) = (f i)[j]?) :
    RwA (· < W.heap.size) W e z (.slice (some a) len cap) ((List.range len).map f) := by
  have hl : ∀ c ∈ (List.range len).map f, c.length = z := by
    intro c hc
    obtain ⟨i, hi, rfl⟩ := List.mem_map.1 hc
    exact (h i (List.mem_range.1 hi)).1
  refine ⟨hl, ?_⟩
  rcases Nat.eq_zero_or_pos len with rfl | hp
  · exact .inl ⟨some a, cap, rfl, rfl⟩
  right
  obtain ⟨b, o, spot⟩ := a
  have h0 := (h 0 hp).2 0 hz
  have hs0 : ∃ u, W.cell? ((⟨b, o, spot⟩ : Addr).add (0 * z + 0)) = some u := ⟨_, h0.trans (List.getElem?_eq_getElem (by have := (h 0 hp).1; omega))⟩
  obtain ⟨u0, hu0⟩ := hs0
  obtain rfl : spot = none := by simpa [Addr.add] using World.cell?_spot hu0
  have hcell : ∀ i, i < len → ∀ j, j < z → W.cell? ⟨b, o + (i * z + j), none⟩ = (f i)[j]? := fun i hi j hj => by
    have := (h i hi).2 j hj
    rwa [Addr.add_lit] at this
  cases hb : W.heap[b]? with
  | none => rw [Addr.add_lit] at hu0; simp [World.cell?, hb] at hu0
  | some ob =>
    cases ob with
    | cells cur t fz =>
      have hget : ∀ i, i < len → ∀ j, j < z → cur[o + (i * z + j)]? = (f i)[j]? := fun i hi j hj => by
        have := hcell i hi j hj
        simpa [World.cell?, hb] using this
      have hsz : ∀ k, k < len * z → ∃ v, cur[o + k]? = some v ∧ ((List.range len).map f).flatten[k]? = some v := fun k hk => by
        have hi : k / z < len := by rw [Nat.div_lt_iff_lt_mul hz]; exact hk
        have hj : k % z < z := Nat.mod_lt _ hz
        have hk' : k / z * z + k % z = k := by rw [Nat.mul_comm]; exact Nat.div_add_mod k z
        have h1 := hget _ hi _ hj
        have h2 := flat_get hl (k / z) (k % z) (f (k / z)) (by simp [hi]) hj
        rw [hk'] at h1 h2
        have h3 := (h _ hi).1
        have e := List.getElem?_eq_getElem (l := f (k / z)) (i := k % z) (by omega)
        rw [e] at h1 h2
        exact ⟨_, h1, h2⟩
      have hle : o + len * z ≤ cur.size := by
        have h1 : 0 < len * z := Nat.mul_pos hp hz
        obtain ⟨v, hv, _⟩ := hsz (len * z - 1) (by omega)
        have := (Array.getElem?_eq_some_iff.1 hv).1
        omega
      refine ⟨b, o, cap, cur, (t, fz), by simp, (Array.getElem?_eq_some_iff.1 hb).1, hb, by simpa using hle, ?_⟩
      apply List.ext_getElem?
      intro k
      simp only [List.length_map, List.length_range]
      by_cases hk : k < len * z
      · obtain ⟨v, h1, h2⟩ := hsz k hk
        rw [List.getElem?_take, if_pos hk, List.getElem?_drop, Array.getElem?_toList, h1, h2]
      · rw [List.getElem?_take, if_neg hk, List.getElem?_eq_none (by rw [flat_len hl]; simp; omega)]
    | _ => rw [Addr.add_lit] at hu0; simp [World.cell?, hb] at hu0
/-- No text is longer than a text can be, so deep. -/
def sbd : Nat → T → Prop
  | 0, _ => True
  | n + 1, .mk _ _ s l p => s.length ≤ 9223372036854775807 ∧ (∀ t ∈ l, sbd n t) ∧ ∀ q ∈ p, q.1.length ≤ 9223372036854775807 ∧ sbd n q.2
set_option maxHeartbeats 1000000 in
/-- A value that was handed in. -/
theorem va_in2 : ∀ (fuel : Nat) (cs : List Value) (x : DataW H × List MemPlace), DataW.trod enc Tryz.prog W 0 (fun _ => true) held fuel 28 cs = some x → ∃ t, VA (· < W.heap.size) W t cs ∧ ∀ n, sbd n t := by
  intro fuel
  induction fuel using Nat.strongRecOn with
  | _ fuel ih =>
    intro cs x h
    obtain ⟨xs, n, rfl, _, hl, hxl, hf⟩ := DataW.trod_struct Tryz.underlying28 h
    have c5 : Tryz.prog.cellsOf 28 = 5 := by kernel_rfl
    have c6 : Tryz.prog.cellsOf 56 = 6 := by kernel_rfl
    rw [c5] at hl
    obtain ⟨v0, v1, v2, v3, v4, rfl⟩ := five_l hl
    obtain ⟨y0, y1, y2, y3, y4, rfl⟩ := five_l hxl
    have c1 : Tryz.prog.cellsOf 3 = 1 := by kernel_rfl
    have c2 : Tryz.prog.cellsOf 9 = 1 := by kernel_rfl
    have c3 : Tryz.prog.cellsOf 25 = 1 := by kernel_rfl
    have c4 : Tryz.prog.cellsOf 26 = 1 := by kernel_rfl
    have g0 : DataW.trod enc Tryz.prog W 0 (fun _ => true) held n 3 (([v0, v1, v2, v3, v4].drop 0).take (Tryz.prog.cellsOf 3)) = some y0 := hf 0 _ rfl
    rw [c1] at g0
    replace g0 : DataW.trod enc Tryz.prog W 0 (fun _ => true) held n 3 [v0] = some y0 := g0
    have g1 : DataW.trod enc Tryz.prog W 0 (fun _ => true) held n 3 (([v0, v1, v2, v3, v4].drop 1).take (Tryz.prog.cellsOf 3)) = some y1 := hf 1 _ rfl
    rw [c1] at g1
    replace g1 : DataW.trod enc Tryz.prog W 0 (fun _ => true) held n 3 [v1] = some y1 := g1
    have g2 : DataW.trod enc Tryz.prog W 0 (fun _ => true) held n 9 (([v0, v1, v2, v3, v4].drop 2).take (Tryz.prog.cellsOf 9)) = some y2 := hf 2 _ rfl
    rw [c2] at g2
    replace g2 : DataW.trod enc Tryz.prog W 0 (fun _ => true) held n 9 [v2] = some y2 := g2
    have g3 : DataW.trod enc Tryz.prog W 0 (fun _ => true) held n 25 (([v0, v1, v2, v3, v4].drop 3).take (Tryz.prog.cellsOf 25)) = some y3 := hf 3 _ rfl
    rw [c3] at g3
    replace g3 : DataW.trod enc Tryz.prog W 0 (fun _ => true) held n 25 [v3] = some y3 := g3
    have g4 : DataW.trod enc Tryz.prog W 0 (fun _ => true) held n 26 (([v0, v1, v2, v3, v4].drop 4).take (Tryz.prog.cellsOf 26)) = some y4 := hf 4 _ rfl
    rw [c4] at g4
    replace g4 : DataW.trod enc Tryz.prog W 0 (fun _ => true) held n 26 [v4] = some y4 := g4
    obtain ⟨kd, e0, _, _⟩ := DataW.trod_int Tryz.underlying3 g0
    obtain ⟨ki, e1, _, _⟩ := DataW.trod_int Tryz.underlying3 g1
    obtain ⟨s, e2, _, sz2⟩ := DataW.trod_string Tryz.underlying9 g2
    cases e0; cases e1; cases e2
    obtain ⟨l, cl, R1, L1, S1, V1⟩ : ∃ (l : List T) (cl : List (List Value)), RwA (· < W.heap.size) W Vt 5 v3 cl ∧ cl.length = l.length ∧ (∀ t ∈ l, ∀ n, sbd n t) ∧ ∀ (j : Nat) (t : T) (c : List Value), l[j]? = some t → cl[j]? = some c → VA (· < W.heap.size) W t c := by
      rcases DataW.trod_slice Tryz.underlying25 g3 with ⟨e, _⟩ | ⟨a, len, cap, el, rs, m, rfl, e, _, _, hlc, hcm, hel, hgo, _, _⟩
      · cases e
        exact ⟨[], [], RwA.nil, rfl, by simp, fun j t c h => by simp at h⟩
      · cases e
        rw [c5] at hgo
        have hex : ∀ i, i < len → ∃ q : List Value × T, (q.1.length = 5 ∧ ∀ j, j < 5 → W.cell? (a.add (i * 5 + j)) = q.1[j]?) ∧ (VA (· < W.heap.size) W q.2 q.1 ∧ ∀ n, sbd n q.2) := fun i hi => by
          have h1 := hgo i hi
          rw [List.getElem?_eq_getElem (by omega)] at h1
          obtain ⟨ci, h2, h3⟩ := Option.bind_eq_some_iff.1 h1
          obtain ⟨_, h4, h5⟩ := World.cells?_some h2
          obtain ⟨t, ht⟩ := ih m (by omega) ci _ h3
          refine ⟨(ci, t), ⟨h4, fun j hj => ?_⟩, ht⟩
          have := h5 j hj
          rwa [Addr.add_add] at this
        haveI : Inhabited (List Value × T) := ⟨([], .mk 0 0 [] [] [])⟩
        obtain ⟨f, hf⟩ := Deep.choose_lt hex
        refine ⟨(List.range len).map fun i => (f i).2, (List.range len).map fun i => (f i).1, row_in (by omega) (f := fun i => (f i).1) fun i hi => (hf i hi).1, by simp, fun t ht => ?_, fun j t c h1 h2 => ?_⟩
        · obtain ⟨i, hi, rfl⟩ := List.mem_map.1 ht
          exact (hf i (List.mem_range.1 hi)).2.2
        have hj : j < len := by have := (List.getElem?_eq_some_iff.1 h1).1; simpa using this
        simp [hj] at h1 h2
        subst h1 h2
        exact (hf j hj).2.1
    obtain ⟨p, cp, R2, L2, S2, N2, V2⟩ : ∃ (p : List (List UInt8 × T)) (cp : List (List Value)), RwA (· < W.heap.size) W Pt 6 v4 cp ∧ cp.length = p.length ∧ (∀ q ∈ p, ∀ n, q.1.length ≤ 9223372036854775807 ∧ sbd n q.2) ∧ (∀ (j : Nat) (q : List UInt8 × T) (c : List Value), p[j]? = some q → cp[j]? = some c → c.head? = some (Value.string (st q.1))) ∧ ∀ (j : Nat) (q : List UInt8 × T) (c : List Value), p[j]? = some q → cp[j]? = some c → VA (· < W.heap.size) W q.2 c.tail := by
      rcases DataW.trod_slice Tryz.underlying26 g4 with ⟨e, _⟩ | ⟨a, len, cap, el, rs, m, rfl, e, _, _, hlc, hcm, hel, hgo, _, _⟩
      · cases e
        exact ⟨[], [], RwA.nil, rfl, by simp, fun j t c h => by simp at h, fun j t c h => by simp at h⟩
      · cases e
        rw [c6] at hgo
        have hex : ∀ i, i < len → ∃ q : List Value × (List UInt8 × T), (q.1.length = 6 ∧ ∀ j, j < 6 → W.cell? (a.add (i * 6 + j)) = q.1[j]?) ∧ q.1.head? = some (Value.string (st q.2.1)) ∧ (VA (· < W.heap.size) W q.2.2 q.1.tail ∧ ∀ n, q.2.1.length ≤ 9223372036854775807 ∧ sbd n q.2.2) := fun i hi => by
          have h1 := hgo i hi
          rw [List.getElem?_eq_getElem (by omega)] at h1
          obtain ⟨ci, h2, h3⟩ := Option.bind_eq_some_iff.1 h1
          obtain ⟨_, h4, h5⟩ := World.cells?_some h2
          obtain ⟨zs, k, rfl, _, hl6, hz2, hg⟩ := DataW.trod_struct Tryz.underlying56 h3
          obtain ⟨u0, r, rfl, hr⟩ := six_l h4
          obtain ⟨w0, w1, rfl⟩ := two_l hz2
          have k0 : DataW.trod enc Tryz.prog W 0 (fun _ => true) held k 9 (((u0 :: r).drop 0).take (Tryz.prog.cellsOf 9)) = some w0 := hg 0 _ rfl
          rw [c2] at k0
          replace k0 : DataW.trod enc Tryz.prog W 0 (fun _ => true) held k 9 [u0] = some w0 := by simpa using k0
          have k1 : DataW.trod enc Tryz.prog W 0 (fun _ => true) held k 28 (((u0 :: r).drop 1).take (Tryz.prog.cellsOf 28)) = some w1 := hg 1 _ rfl
          rw [c5] at k1
          replace k1 : DataW.trod enc Tryz.prog W 0 (fun _ => true) held k 28 r = some w1 := by
            rwa [List.drop_succ_cons, List.drop_zero, List.take_of_length_le (by omega)] at k1
          obtain ⟨s0, e0, _, sz0⟩ := DataW.trod_string Tryz.underlying9 k0
          cases e0
          obtain ⟨t, ht⟩ := ih k (by omega) r _ k1
          refine ⟨(.string s0 :: r, (s0.data.toList, t)), ⟨h4, fun j hj => ?_⟩, by simp [st], ht.1, fun n => ⟨by have : s0.data.toList.length = s0.size := rfl; rw [this]; unfold maxLen at sz0; omega, ht.2 n⟩⟩
          have := h5 j hj
          rwa [Addr.add_add] at this
        haveI : Inhabited (List Value × (List UInt8 × T)) := ⟨([], ([], .mk 0 0 [] [] []))⟩
        obtain ⟨f, hf⟩ := Deep.choose_lt hex
        refine ⟨(List.range len).map fun i => (f i).2, (List.range len).map fun i => (f i).1, row_in (by omega) (f := fun i => (f i).1) fun i hi => (hf i hi).1, by simp, fun t ht => ?_, fun j t c h1 h2 => ?_, fun j t c h1 h2 => ?_⟩
        · obtain ⟨i, hi, rfl⟩ := List.mem_map.1 ht
          exact (hf i (List.mem_range.1 hi)).2.2.2
        · have hj : j < len := by have := (List.getElem?_eq_some_iff.1 h1).1; simpa using this
          simp [hj] at h1 h2
          subst h1 h2
          exact (hf j hj).2.1
        · have hj : j < len := by have := (List.getElem?_eq_some_iff.1 h1).1; simpa using this
          simp [hj] at h1 h2
          subst h1 h2
          exact (hf j hj).2.2.1
    refine ⟨.mk kd ki s.data.toList l p, ?_, fun n => ?_⟩
    · have := VA.mk (F := (· < W.heap.size)) (w := W) (k := kd) (i := ki) (s := s.data.toList) R1 R2 L1 L2 V1 N2 V2
      simpa [st] using this
    · cases n with
      | zero => trivial
      | succ n => exact ⟨by have : s.data.toList.length = s.size := rfl; rw [this]; unfold maxLen at sz2; omega, fun t ht => S1 t ht n, fun q hq => S2 q hq n⟩
theorem va_in (fuel : Nat) (cs : List Value) (x : DataW H × List MemPlace) (h : DataW.trod enc Tryz.prog W 0 (fun _ => true) held fuel 28 cs = some x) : ∃ t, VA (· < W.heap.size) W t cs :=
  let ⟨t, h1, _⟩ := va_in2 fuel cs x h
  ⟨t, h1⟩
end
end Go.Proofs.YtkkgcbaofdejjaaGreatDoor

namespace Go.Proofs.YtkkgcbaofdejjaaGreatDoor
open Go.Shelf
def lays196_ren : Go.Shelf.Ren := ⟨fun | 196 => 40 | 259 => 60 | n => n, fun | 9 => 9 | 4 => 4 | 3 => 3 | 5 => 5 | 12 => 12 | 119 => 79 | 0 => 0 | 46 => 83 | 139 => 82 | 138 => 81 | 53 => 104 | n => n, fun | 3 => 0 | 4 => 1 | n => n⟩
theorem lays196 : Go.Proofs.Lays.n196 Tryz.prog lays196_ren := {
  mixed := by kernel_rfl
  f196 := Tryz.func40.trans (congrArg some (by kernel_rfl))
  f259 := Tryz.func60.trans (congrArg some (by kernel_rfl))
  t0 := Tryz.underlying0
  a0 := Tryz.isAgg0
  z0 := Tryz.sizeOf0
  v0 := Tryz.zeroValue0
  t3 := Tryz.underlying3
  a3 := Tryz.isAgg3
  z3 := Tryz.sizeOf3
  v3 := Tryz.zeroValue3
  t4 := Tryz.underlying4
  a4 := Tryz.isAgg4
  z4 := Tryz.sizeOf4
  v4 := Tryz.zeroValue4
  t5 := Tryz.underlying5
  a5 := Tryz.isAgg5
  z5 := Tryz.sizeOf5
  v5 := Tryz.zeroValue5
  t9 := Tryz.underlying9
  a9 := Tryz.isAgg9
  z9 := Tryz.sizeOf9
  v9 := Tryz.zeroValue9
  t12 := Tryz.underlying12
  a12 := Tryz.isAgg12
  z12 := Tryz.sizeOf12
  v12 := Tryz.zeroValue12
  t46 := Tryz.underlying83
  a46 := Tryz.isAgg83
  z46 := Tryz.sizeOf83
  v46 := Tryz.zeroValue83
  t53 := Tryz.underlying104
  a53 := Tryz.isAgg104
  z53 := Tryz.sizeOf104
  v53 := Tryz.zeroValue104
  t119 := Tryz.underlying79
  a119 := Tryz.isAgg79
  z119 := Tryz.sizeOf79
  t138 := Tryz.underlying81
  a138 := Tryz.isAgg81
  z138 := Tryz.sizeOf81
  v138 := Tryz.zeroValue81
  t139 := Tryz.underlying82
  a139 := Tryz.isAgg82
  z139 := Tryz.sizeOf82
  v139 := Tryz.zeroValue82
  g3 := by kernel_rfl
  g4 := by kernel_rfl }
open Go.RowKit Go.Lib in
theorem utf8_ValidString (s : ByteArray) (w : World) (hs : s.size ≤ 9223372036854775807) (hT : Lib.Utf8Tabs 0 1 w) :
    Calls Tryz.prog 40 #[.string s] w fun e w' => e = .returned (.bool (Lib.validD s.data.toList)) ∧ Below w.heap.size w w' := Any.utf8_ValidString lays196 s w hs hT
def lays260_ren : Go.Shelf.Ren := ⟨fun | 260 => 94 | n => n, fun | 9 => 9 | 21 => 21 | 3 => 3 | 4 => 4 | 5 => 5 | 119 => 79 | 0 => 0 | 46 => 83 | 139 => 82 | 138 => 81 | n => n, fun | 3 => 0 | 4 => 1 | n => n⟩
theorem lays260 : Go.Proofs.Lays.n260 Tryz.prog lays260_ren := {
  mixed := by kernel_rfl
  f260 := Tryz.func94.trans (congrArg some (by kernel_rfl))
  t0 := Tryz.underlying0
  a0 := Tryz.isAgg0
  z0 := Tryz.sizeOf0
  v0 := Tryz.zeroValue0
  t3 := Tryz.underlying3
  a3 := Tryz.isAgg3
  z3 := Tryz.sizeOf3
  v3 := Tryz.zeroValue3
  t4 := Tryz.underlying4
  a4 := Tryz.isAgg4
  z4 := Tryz.sizeOf4
  v4 := Tryz.zeroValue4
  t5 := Tryz.underlying5
  a5 := Tryz.isAgg5
  z5 := Tryz.sizeOf5
  v5 := Tryz.zeroValue5
  t9 := Tryz.underlying9
  a9 := Tryz.isAgg9
  z9 := Tryz.sizeOf9
  v9 := Tryz.zeroValue9
  t21 := Tryz.underlying21
  a21 := Tryz.isAgg21
  z21 := Tryz.sizeOf21
  v21 := Tryz.zeroValue21
  t46 := Tryz.underlying83
  a46 := Tryz.isAgg83
  z46 := Tryz.sizeOf83
  v46 := Tryz.zeroValue83
  t119 := Tryz.underlying79
  a119 := Tryz.isAgg79
  z119 := Tryz.sizeOf79
  t138 := Tryz.underlying81
  a138 := Tryz.isAgg81
  z138 := Tryz.sizeOf81
  v138 := Tryz.zeroValue81
  t139 := Tryz.underlying82
  a139 := Tryz.isAgg82
  z139 := Tryz.sizeOf82
  v139 := Tryz.zeroValue82
  g3 := by kernel_rfl
  g4 := by kernel_rfl }
open Go.RowKit Go.Lib in
theorem utf8_slow (s : ByteArray) (w : World) (hT : Lib.Utf8Tabs 0 1 w) :
    Calls Tryz.prog 94 #[.string s] w fun e w' => e = .returned (.tuple #[.int .i32 (Lib.decodeGo s).1, .int .i64 (Lib.decodeGo s).2]) ∧ Below w.heap.size w w' := Any.utf8_decodeRuneInStringSlow lays260 s w hT
end Go.Proofs.YtkkgcbaofdejjaaGreatDoor

namespace Go.Proofs.YtkkgcbaofdejjaaGreatDoor
open Go.RowKit

def spB (k i : Int) (s : List UInt8) (nl np : Nat) : Bool :=
  decide (i ≠ 0 ∧ k ≠ 1 ∧ k ≠ 2) || decide (s ≠ [] ∧ k ≠ 3) || decide (0 < nl ∧ k ≠ 4) || decide (0 < np ∧ k ≠ 5)
theorem spB_1 {k i : Int} {s : List UInt8} {nl np : Nat} (h : i ≠ 0 ∧ k ≠ 1 ∧ k ≠ 2) : spB k i s nl np = true := by unfold spB; rw [decide_eq_true h]; simp only [Bool.true_or]
theorem spB_2 {k i : Int} {s : List UInt8} {nl np : Nat} (h : s ≠ [] ∧ k ≠ 3) : spB k i s nl np = true := by unfold spB; rw [decide_eq_true h]; simp only [Bool.true_or, Bool.or_true]
theorem spB_3 {k i : Int} {s : List UInt8} {nl np : Nat} (h : 0 < nl ∧ k ≠ 4) : spB k i s nl np = true := by unfold spB; rw [decide_eq_true h]; simp only [Bool.true_or, Bool.or_true]
theorem spB_4 {k i : Int} {s : List UInt8} {nl np : Nat} (h : 0 < np ∧ k ≠ 5) : spB k i s nl np = true := by unfold spB; rw [decide_eq_true h]; simp only [Bool.or_true]
theorem spB_f {k i : Int} {s : List UInt8} {nl np : Nat} (h1 : ¬ (i ≠ 0 ∧ k ≠ 1 ∧ k ≠ 2)) (h2 : ¬ (s ≠ [] ∧ k ≠ 3)) (h3 : ¬ (0 < nl ∧ k ≠ 4)) (h4 : ¬ (0 < np ∧ k ≠ 5)) : spB k i s nl np = false := by unfold spB; rw [decide_eq_false h1, decide_eq_false h2, decide_eq_false h3, decide_eq_false h4]; rfl
def inR (n : Int) : Bool := decide (-9007199254740991 ≤ n ∧ n ≤ 9007199254740991)
/-- Is a value what some text is, with so many lists and objects within one another at most? -/
def gd : Nat → T → Bool
  | n, .mk k i s l p => !spB k i s l.length p.length && (
    if k = 0 then true else if k = 1 then decide (i = 0 ∨ i = 1) else if k = 2 then inR i else if k = 3 then Lib.validD s
    else if k = 4 then (match n with
      | 0 => false
      | n + 1 => l.all (gd n))
    else if k = 5 then (match n with
      | 0 => false
      | n + 1 => p.all (fun q => Lib.validD q.1 && gd n q.2) && onc (p.map (·.1)))
    else false)
theorem rng_d {n : Int} {w : World} : Calls Tryz.prog 39 #[.int .i64 n] w fun e w' => e = .returned (.bool (inR n)) ∧ w' = w := by
  by_cases h1 : -9007199254740991 ≤ n
  · by_cases h2 : n ≤ 9007199254740991
    · have e : inR n = true := decide_eq_true ⟨h1, h2⟩
      rw [e]
      have d1 : decide ((-9007199254740991 : Int) ≤ n) = true := decide_eq_true h1
      have d2 : decide (n ≤ 9007199254740991) = true := decide_eq_true h2
      go_enter Tryz.func39, Tryz.ntmps39
      go_wp2
      go_ret
      exact ⟨rfl, rfl⟩
    · have e : inR n = false := decide_eq_false fun h => h2 h.2
      rw [e]
      have d1 : decide ((-9007199254740991 : Int) ≤ n) = true := decide_eq_true h1
      have d2 : decide (n ≤ 9007199254740991) = false := decide_eq_false h2
      go_enter Tryz.func39, Tryz.ntmps39
      go_wp2
      go_ret
      exact ⟨rfl, rfl⟩
  · have e : inR n = false := decide_eq_false fun h => h1 h.1
    rw [e]
    have d1 : decide ((-9007199254740991 : Int) ≤ n) = false := decide_eq_false h1
    go_enter Tryz.func39, Tryz.ntmps39
    go_wp2
    go_ret
    exact ⟨rfl, rfl⟩
theorem RwA.slc {F : Nat → Prop} {w : World} {e : TypeId} {z : Nat} {v : Value} {cs : List (List Value)} (h : RwA F w e z v cs) : ∃ a cap, v = .slice a cs.length cap := by
  obtain ⟨_, ⟨a, cap, h1, h2⟩ | ⟨b, o, cap, cur, fz, h1, _⟩⟩ := h
  · exact ⟨a, cap, by rw [h1, h2]; rfl⟩
  · exact ⟨_, cap, h1⟩
theorem st_no {s : List UInt8} : (st s).toList = [] ↔ s = [] := by
  have h := st_eq s []
  have e : (st []).toList = [] := by kernel_rfl
  rw [e] at h
  by_cases hs : s = []
  · subst hs; simp [e]
  · rw [decide_eq_false hs] at h
    simp only [hs, iff_false]
    intro h2
    rw [h2] at h
    cases h
/-- A kind: one of 1 to 5, or none of them. -/
theorem kinds (k : Int) : k = 1 ∨ k = 2 ∨ k = 3 ∨ k = 4 ∨ k = 5 ∨ (k ≠ 1 ∧ k ≠ 2 ∧ k ≠ 3 ∧ k ≠ 4 ∧ k ≠ 5) := by omega
set_option maxHeartbeats 8000000 in
set_option maxRecDepth 100000 in
theorem spare_1 {i : Int} {s : List UInt8} {sa pa : Option Addr} {nl np sc pc : Nat} {w : World} : Calls Tryz.prog 38 #[.agg #[.int .i64 1, .int .i64 i, .string (st s), .slice sa nl sc, .slice pa np pc]] w fun e w' => e = .returned (.bool (spB 1 i s nl np)) ∧ Below w.heap.size w w' := by
  obtain ⟨B, hB⟩ : ∃ B, Hid (B = spB 1 i s nl np) := ⟨_, hide1 rfl⟩
  rw [← hB.out]
  have hbl : Hid (Below w.heap.size w (w.alloc (.cells #[.int .i64 (1), .int .i64 i, .string (st s), .slice sa nl sc, .slice pa np pc] 28))) := hide1 ((Below.refl _ _).alloc (Nat.le_refl _) _)
  by_cases hi : i = 0
  · have di : (i != 0) = false := by simpa using hi
    by_cases hs : s = []
    · have ds : (st s).toList = [] := st_no.2 hs
      by_cases hl : nl = 0
      · have dl : ¬ 0 < nl := by omega
        by_cases hp : np = 0
        · have dp : ¬ 0 < np := by omega
          have hE : Hid (B = false) := hide1 (hB.out.trans (spB_f (by omega) (fun h => h.1 hs) (by omega) (by omega)))
          clear hB hi hs hl hp
          go_enter Tryz.func38, Tryz.ntmps38
          go_wp2
          go_ret
          exact ⟨by rw [hE.out]; rfl, hbl.out⟩
        · have dp : 0 < np := by omega
          have hE : Hid (B = true) := hide1 (hB.out.trans (spB_4 ⟨by omega, by omega⟩))
          clear hB hi hs hl hp
          go_enter Tryz.func38, Tryz.ntmps38
          go_wp2
          go_ret
          exact ⟨by rw [hE.out]; rfl, hbl.out⟩
      · have dl : 0 < nl := by omega
        have hE : Hid (B = true) := hide1 (hB.out.trans (spB_3 ⟨by omega, by omega⟩))
        clear hB hi hs hl
        go_enter Tryz.func38, Tryz.ntmps38
        go_wp2
        go_ret
        exact ⟨by rw [hE.out]; rfl, hbl.out⟩
    · have ds : ¬ (st s).toList = [] := fun h => hs (st_no.1 h)
      have hE : Hid (B = true) := hide1 (hB.out.trans (spB_2 ⟨hs, by omega⟩))
      clear hB hi hs
      go_enter Tryz.func38, Tryz.ntmps38
      go_wp2
      go_ret
      exact ⟨by rw [hE.out]; rfl, hbl.out⟩
  · have di : (i != 0) = true := by simpa using hi
    by_cases hs : s = []
    · have ds : (st s).toList = [] := st_no.2 hs
      by_cases hl : nl = 0
      · have dl : ¬ 0 < nl := by omega
        by_cases hp : np = 0
        · have dp : ¬ 0 < np := by omega
          have hE : Hid (B = false) := hide1 (hB.out.trans (spB_f (by omega) (fun h => h.1 hs) (by omega) (by omega)))
          clear hB hi hs hl hp
          go_enter Tryz.func38, Tryz.ntmps38
          go_wp2
          go_ret
          exact ⟨by rw [hE.out]; rfl, hbl.out⟩
        · have dp : 0 < np := by omega
          have hE : Hid (B = true) := hide1 (hB.out.trans (spB_4 ⟨by omega, by omega⟩))
          clear hB hi hs hl hp
          go_enter Tryz.func38, Tryz.ntmps38
          go_wp2
          go_ret
          exact ⟨by rw [hE.out]; rfl, hbl.out⟩
      · have dl : 0 < nl := by omega
        have hE : Hid (B = true) := hide1 (hB.out.trans (spB_3 ⟨by omega, by omega⟩))
        clear hB hi hs hl
        go_enter Tryz.func38, Tryz.ntmps38
        go_wp2
        go_ret
        exact ⟨by rw [hE.out]; rfl, hbl.out⟩
    · have ds : ¬ (st s).toList = [] := fun h => hs (st_no.1 h)
      have hE : Hid (B = true) := hide1 (hB.out.trans (spB_2 ⟨hs, by omega⟩))
      clear hB hi hs
      go_enter Tryz.func38, Tryz.ntmps38
      go_wp2
      go_ret
      exact ⟨by rw [hE.out]; rfl, hbl.out⟩
set_option maxHeartbeats 8000000 in
set_option maxRecDepth 100000 in
theorem spare_2 {i : Int} {s : List UInt8} {sa pa : Option Addr} {nl np sc pc : Nat} {w : World} : Calls Tryz.prog 38 #[.agg #[.int .i64 2, .int .i64 i, .string (st s), .slice sa nl sc, .slice pa np pc]] w fun e w' => e = .returned (.bool (spB 2 i s nl np)) ∧ Below w.heap.size w w' := by
  obtain ⟨B, hB⟩ : ∃ B, Hid (B = spB 2 i s nl np) := ⟨_, hide1 rfl⟩
  rw [← hB.out]
  have hbl : Hid (Below w.heap.size w (w.alloc (.cells #[.int .i64 (2), .int .i64 i, .string (st s), .slice sa nl sc, .slice pa np pc] 28))) := hide1 ((Below.refl _ _).alloc (Nat.le_refl _) _)
  by_cases hi : i = 0
  · have di : (i != 0) = false := by simpa using hi
    by_cases hs : s = []
    · have ds : (st s).toList = [] := st_no.2 hs
      by_cases hl : nl = 0
      · have dl : ¬ 0 < nl := by omega
        by_cases hp : np = 0
        · have dp : ¬ 0 < np := by omega
          have hE : Hid (B = false) := hide1 (hB.out.trans (spB_f (by omega) (fun h => h.1 hs) (by omega) (by omega)))
          clear hB hi hs hl hp
          go_enter Tryz.func38, Tryz.ntmps38
          go_wp2
          go_ret
          exact ⟨by rw [hE.out]; rfl, hbl.out⟩
        · have dp : 0 < np := by omega
          have hE : Hid (B = true) := hide1 (hB.out.trans (spB_4 ⟨by omega, by omega⟩))
          clear hB hi hs hl hp
          go_enter Tryz.func38, Tryz.ntmps38
          go_wp2
          go_ret
          exact ⟨by rw [hE.out]; rfl, hbl.out⟩
      · have dl : 0 < nl := by omega
        have hE : Hid (B = true) := hide1 (hB.out.trans (spB_3 ⟨by omega, by omega⟩))
        clear hB hi hs hl
        go_enter Tryz.func38, Tryz.ntmps38
        go_wp2
        go_ret
        exact ⟨by rw [hE.out]; rfl, hbl.out⟩
    · have ds : ¬ (st s).toList = [] := fun h => hs (st_no.1 h)
      have hE : Hid (B = true) := hide1 (hB.out.trans (spB_2 ⟨hs, by omega⟩))
      clear hB hi hs
      go_enter Tryz.func38, Tryz.ntmps38
      go_wp2
      go_ret
      exact ⟨by rw [hE.out]; rfl, hbl.out⟩
  · have di : (i != 0) = true := by simpa using hi
    by_cases hs : s = []
    · have ds : (st s).toList = [] := st_no.2 hs
      by_cases hl : nl = 0
      · have dl : ¬ 0 < nl := by omega
        by_cases hp : np = 0
        · have dp : ¬ 0 < np := by omega
          have hE : Hid (B = false) := hide1 (hB.out.trans (spB_f (by omega) (fun h => h.1 hs) (by omega) (by omega)))
          clear hB hi hs hl hp
          go_enter Tryz.func38, Tryz.ntmps38
          go_wp2
          go_ret
          exact ⟨by rw [hE.out]; rfl, hbl.out⟩
        · have dp : 0 < np := by omega
          have hE : Hid (B = true) := hide1 (hB.out.trans (spB_4 ⟨by omega, by omega⟩))
          clear hB hi hs hl hp
          go_enter Tryz.func38, Tryz.ntmps38
          go_wp2
          go_ret
          exact ⟨by rw [hE.out]; rfl, hbl.out⟩
      · have dl : 0 < nl := by omega
        have hE : Hid (B = true) := hide1 (hB.out.trans (spB_3 ⟨by omega, by omega⟩))
        clear hB hi hs hl
        go_enter Tryz.func38, Tryz.ntmps38
        go_wp2
        go_ret
        exact ⟨by rw [hE.out]; rfl, hbl.out⟩
    · have ds : ¬ (st s).toList = [] := fun h => hs (st_no.1 h)
      have hE : Hid (B = true) := hide1 (hB.out.trans (spB_2 ⟨hs, by omega⟩))
      clear hB hi hs
      go_enter Tryz.func38, Tryz.ntmps38
      go_wp2
      go_ret
      exact ⟨by rw [hE.out]; rfl, hbl.out⟩
set_option maxHeartbeats 8000000 in
set_option maxRecDepth 100000 in
theorem spare_3 {i : Int} {s : List UInt8} {sa pa : Option Addr} {nl np sc pc : Nat} {w : World} : Calls Tryz.prog 38 #[.agg #[.int .i64 3, .int .i64 i, .string (st s), .slice sa nl sc, .slice pa np pc]] w fun e w' => e = .returned (.bool (spB 3 i s nl np)) ∧ Below w.heap.size w w' := by
  obtain ⟨B, hB⟩ : ∃ B, Hid (B = spB 3 i s nl np) := ⟨_, hide1 rfl⟩
  rw [← hB.out]
  have hbl : Hid (Below w.heap.size w (w.alloc (.cells #[.int .i64 (3), .int .i64 i, .string (st s), .slice sa nl sc, .slice pa np pc] 28))) := hide1 ((Below.refl _ _).alloc (Nat.le_refl _) _)
  by_cases hi : i = 0
  · have di : (i != 0) = false := by simpa using hi
    by_cases hs : s = []
    · have ds : (st s).toList = [] := st_no.2 hs
      by_cases hl : nl = 0
      · have dl : ¬ 0 < nl := by omega
        by_cases hp : np = 0
        · have dp : ¬ 0 < np := by omega
          have hE : Hid (B = false) := hide1 (hB.out.trans (spB_f (by omega) (fun h => h.1 hs) (by omega) (by omega)))
          clear hB hi hs hl hp
          go_enter Tryz.func38, Tryz.ntmps38
          go_wp2
          go_ret
          exact ⟨by rw [hE.out]; rfl, hbl.out⟩
        · have dp : 0 < np := by omega
          have hE : Hid (B = true) := hide1 (hB.out.trans (spB_4 ⟨by omega, by omega⟩))
          clear hB hi hs hl hp
          go_enter Tryz.func38, Tryz.ntmps38
          go_wp2
          go_ret
          exact ⟨by rw [hE.out]; rfl, hbl.out⟩
      · have dl : 0 < nl := by omega
        have hE : Hid (B = true) := hide1 (hB.out.trans (spB_3 ⟨by omega, by omega⟩))
        clear hB hi hs hl
        go_enter Tryz.func38, Tryz.ntmps38
        go_wp2
        go_ret
        exact ⟨by rw [hE.out]; rfl, hbl.out⟩
    · have ds : ¬ (st s).toList = [] := fun h => hs (st_no.1 h)
      by_cases hl : nl = 0
      · have dl : ¬ 0 < nl := by omega
        by_cases hp : np = 0
        · have dp : ¬ 0 < np := by omega
          have hE : Hid (B = false) := hide1 (hB.out.trans (spB_f (by omega) (fun h => h.2 rfl) (by omega) (by omega)))
          clear hB hi hs hl hp
          go_enter Tryz.func38, Tryz.ntmps38
          go_wp2
          go_ret
          exact ⟨by rw [hE.out]; rfl, hbl.out⟩
        · have dp : 0 < np := by omega
          have hE : Hid (B = true) := hide1 (hB.out.trans (spB_4 ⟨by omega, by omega⟩))
          clear hB hi hs hl hp
          go_enter Tryz.func38, Tryz.ntmps38
          go_wp2
          go_ret
          exact ⟨by rw [hE.out]; rfl, hbl.out⟩
      · have dl : 0 < nl := by omega
        have hE : Hid (B = true) := hide1 (hB.out.trans (spB_3 ⟨by omega, by omega⟩))
        clear hB hi hs hl
        go_enter Tryz.func38, Tryz.ntmps38
        go_wp2
        go_ret
        exact ⟨by rw [hE.out]; rfl, hbl.out⟩
  · have di : (i != 0) = true := by simpa using hi
    have hE : Hid (B = true) := hide1 (hB.out.trans (spB_1 ⟨hi, by omega, by omega⟩))
    clear hB hi
    go_enter Tryz.func38, Tryz.ntmps38
    go_wp2
    go_ret
    exact ⟨by rw [hE.out]; rfl, hbl.out⟩
set_option maxHeartbeats 8000000 in
set_option maxRecDepth 100000 in
theorem spare_4 {i : Int} {s : List UInt8} {sa pa : Option Addr} {nl np sc pc : Nat} {w : World} : Calls Tryz.prog 38 #[.agg #[.int .i64 4, .int .i64 i, .string (st s), .slice sa nl sc, .slice pa np pc]] w fun e w' => e = .returned (.bool (spB 4 i s nl np)) ∧ Below w.heap.size w w' := by
  obtain ⟨B, hB⟩ : ∃ B, Hid (B = spB 4 i s nl np) := ⟨_, hide1 rfl⟩
  rw [← hB.out]
  have hbl : Hid (Below w.heap.size w (w.alloc (.cells #[.int .i64 (4), .int .i64 i, .string (st s), .slice sa nl sc, .slice pa np pc] 28))) := hide1 ((Below.refl _ _).alloc (Nat.le_refl _) _)
  by_cases hi : i = 0
  · have di : (i != 0) = false := by simpa using hi
    by_cases hs : s = []
    · have ds : (st s).toList = [] := st_no.2 hs
      by_cases hl : nl = 0
      · have dl : ¬ 0 < nl := by omega
        by_cases hp : np = 0
        · have dp : ¬ 0 < np := by omega
          have hE : Hid (B = false) := hide1 (hB.out.trans (spB_f (by omega) (fun h => h.1 hs) (by omega) (by omega)))
          clear hB hi hs hl hp
          go_enter Tryz.func38, Tryz.ntmps38
          go_wp2
          go_ret
          exact ⟨by rw [hE.out]; rfl, hbl.out⟩
        · have dp : 0 < np := by omega
          have hE : Hid (B = true) := hide1 (hB.out.trans (spB_4 ⟨by omega, by omega⟩))
          clear hB hi hs hl hp
          go_enter Tryz.func38, Tryz.ntmps38
          go_wp2
          go_ret
          exact ⟨by rw [hE.out]; rfl, hbl.out⟩
      · have dl : 0 < nl := by omega
        by_cases hp : np = 0
        · have dp : ¬ 0 < np := by omega
          have hE : Hid (B = false) := hide1 (hB.out.trans (spB_f (by omega) (fun h => h.1 hs) (by omega) (by omega)))
          clear hB hi hs hl hp
          go_enter Tryz.func38, Tryz.ntmps38
          go_wp2
          go_ret
          exact ⟨by rw [hE.out]; rfl, hbl.out⟩
        · have dp : 0 < np := by omega
          have hE : Hid (B = true) := hide1 (hB.out.trans (spB_4 ⟨by omega, by omega⟩))
          clear hB hi hs hl hp
          go_enter Tryz.func38, Tryz.ntmps38
          go_wp2
          go_ret
          exact ⟨by rw [hE.out]; rfl, hbl.out⟩
    · have ds : ¬ (st s).toList = [] := fun h => hs (st_no.1 h)
      have hE : Hid (B = true) := hide1 (hB.out.trans (spB_2 ⟨hs, by omega⟩))
      clear hB hi hs
      go_enter Tryz.func38, Tryz.ntmps38
      go_wp2
      go_ret
      exact ⟨by rw [hE.out]; rfl, hbl.out⟩
  · have di : (i != 0) = true := by simpa using hi
    have hE : Hid (B = true) := hide1 (hB.out.trans (spB_1 ⟨hi, by omega, by omega⟩))
    clear hB hi
    go_enter Tryz.func38, Tryz.ntmps38
    go_wp2
    go_ret
    exact ⟨by rw [hE.out]; rfl, hbl.out⟩
set_option maxHeartbeats 8000000 in
set_option maxRecDepth 100000 in
theorem spare_5 {i : Int} {s : List UInt8} {sa pa : Option Addr} {nl np sc pc : Nat} {w : World} : Calls Tryz.prog 38 #[.agg #[.int .i64 5, .int .i64 i, .string (st s), .slice sa nl sc, .slice pa np pc]] w fun e w' => e = .returned (.bool (spB 5 i s nl np)) ∧ Below w.heap.size w w' := by
  obtain ⟨B, hB⟩ : ∃ B, Hid (B = spB 5 i s nl np) := ⟨_, hide1 rfl⟩
  rw [← hB.out]
  have hbl : Hid (Below w.heap.size w (w.alloc (.cells #[.int .i64 (5), .int .i64 i, .string (st s), .slice sa nl sc, .slice pa np pc] 28))) := hide1 ((Below.refl _ _).alloc (Nat.le_refl _) _)
  by_cases hi : i = 0
  · have di : (i != 0) = false := by simpa using hi
    by_cases hs : s = []
    · have ds : (st s).toList = [] := st_no.2 hs
      by_cases hl : nl = 0
      · have dl : ¬ 0 < nl := by omega
        by_cases hp : np = 0
        · have dp : ¬ 0 < np := by omega
          have hE : Hid (B = false) := hide1 (hB.out.trans (spB_f (by omega) (fun h => h.1 hs) (by omega) (by omega)))
          clear hB hi hs hl hp
          go_enter Tryz.func38, Tryz.ntmps38
          go_wp2
          go_ret
          exact ⟨by rw [hE.out]; rfl, hbl.out⟩
        · have dp : 0 < np := by omega
          have hE : Hid (B = false) := hide1 (hB.out.trans (spB_f (by omega) (fun h => h.1 hs) (by omega) (by omega)))
          clear hB hi hs hl hp
          go_enter Tryz.func38, Tryz.ntmps38
          go_wp2
          go_ret
          exact ⟨by rw [hE.out]; rfl, hbl.out⟩
      · have dl : 0 < nl := by omega
        have hE : Hid (B = true) := hide1 (hB.out.trans (spB_3 ⟨by omega, by omega⟩))
        clear hB hi hs hl
        go_enter Tryz.func38, Tryz.ntmps38
        go_wp2
        go_ret
        exact ⟨by rw [hE.out]; rfl, hbl.out⟩
    · have ds : ¬ (st s).toList = [] := fun h => hs (st_no.1 h)
      have hE : Hid (B = true) := hide1 (hB.out.trans (spB_2 ⟨hs, by omega⟩))
      clear hB hi hs
      go_enter Tryz.func38, Tryz.ntmps38
      go_wp2
      go_ret
      exact ⟨by rw [hE.out]; rfl, hbl.out⟩
  · have di : (i != 0) = true := by simpa using hi
    have hE : Hid (B = true) := hide1 (hB.out.trans (spB_1 ⟨hi, by omega, by omega⟩))
    clear hB hi
    go_enter Tryz.func38, Tryz.ntmps38
    go_wp2
    go_ret
    exact ⟨by rw [hE.out]; rfl, hbl.out⟩
set_option maxHeartbeats 8000000 in
set_option maxRecDepth 100000 in
theorem spare_o {k i : Int} {s : List UInt8} {sa pa : Option Addr} {nl np sc pc : Nat} {w : World} (k1 : k ≠ 1) (k2 : k ≠ 2) (k3 : k ≠ 3) (k4 : k ≠ 4) (k5 : k ≠ 5) : Calls Tryz.prog 38 #[.agg #[.int .i64 k, .int .i64 i, .string (st s), .slice sa nl sc, .slice pa np pc]] w fun e w' => e = .returned (.bool (spB k i s nl np)) ∧ Below w.heap.size w w' := by
  obtain ⟨B, hB⟩ : ∃ B, Hid (B = spB k i s nl np) := ⟨_, hide1 rfl⟩
  rw [← hB.out]
  have hbl : Hid (Below w.heap.size w (w.alloc (.cells #[.int .i64 k, .int .i64 i, .string (st s), .slice sa nl sc, .slice pa np pc] 28))) := hide1 ((Below.refl _ _).alloc (Nat.le_refl _) _)
  have d1 : (k != 1) = true := by simpa using k1
  have d2 : (k != 2) = true := by simpa using k2
  have d3 : (k != 3) = true := by simpa using k3
  have d4 : (k != 4) = true := by simpa using k4
  have d5 : (k != 5) = true := by simpa using k5
  by_cases hi : i = 0
  · have di : (i != 0) = false := by simpa using hi
    by_cases hs : s = []
    · have ds : (st s).toList = [] := st_no.2 hs
      by_cases hl : nl = 0
      · have dl : ¬ 0 < nl := by omega
        by_cases hp : np = 0
        · have dp : ¬ 0 < np := by omega
          have hE : Hid (B = false) := hide1 (hB.out.trans (spB_f (by omega) (fun h => h.1 hs) (by omega) (by omega)))
          clear hB hi hs hl hp
          go_enter Tryz.func38, Tryz.ntmps38
          go_wp2
          go_ret
          exact ⟨by rw [hE.out]; rfl, hbl.out⟩
        · have dp : 0 < np := by omega
          have hE : Hid (B = true) := hide1 (hB.out.trans (spB_4 ⟨by omega, by omega⟩))
          clear hB hi hs hl hp
          go_enter Tryz.func38, Tryz.ntmps38
          go_wp2
          go_ret
          exact ⟨by rw [hE.out]; rfl, hbl.out⟩
      · have dl : 0 < nl := by omega
        have hE : Hid (B = true) := hide1 (hB.out.trans (spB_3 ⟨by omega, by omega⟩))
        clear hB hi hs hl
        go_enter Tryz.func38, Tryz.ntmps38
        go_wp2
        go_ret
        exact ⟨by rw [hE.out]; rfl, hbl.out⟩
    · have ds : ¬ (st s).toList = [] := fun h => hs (st_no.1 h)
      have hE : Hid (B = true) := hide1 (hB.out.trans (spB_2 ⟨hs, by omega⟩))
      clear hB hi hs
      go_enter Tryz.func38, Tryz.ntmps38
      go_wp2
      go_ret
      exact ⟨by rw [hE.out]; rfl, hbl.out⟩
  · have di : (i != 0) = true := by simpa using hi
    have hE : Hid (B = true) := hide1 (hB.out.trans (spB_1 ⟨hi, by omega, by omega⟩))
    clear hB hi
    go_enter Tryz.func38, Tryz.ntmps38
    go_wp2
    go_ret
    exact ⟨by rw [hE.out]; rfl, hbl.out⟩
theorem spare_d {k i : Int} {s : List UInt8} {sa pa : Option Addr} {nl np sc pc : Nat} {w : World} : Calls Tryz.prog 38 #[.agg #[.int .i64 k, .int .i64 i, .string (st s), .slice sa nl sc, .slice pa np pc]] w fun e w' => e = .returned (.bool (spB k i s nl np)) ∧ Below w.heap.size w w' := by
  rcases kinds k with rfl | rfl | rfl | rfl | rfl | ⟨k1, k2, k3, k4, k5⟩
  · exact spare_1
  · exact spare_2
  · exact spare_3
  · exact spare_4
  · exact spare_5
  · exact spare_o k1 k2 k3 k4 k5
end Go.Proofs.YtkkgcbaofdejjaaGreatDoor

namespace Go.Proofs.YtkkgcbaofdejjaaGreatDoor
open Go.RowKit

/-- What a look through a list answers. -/
def AnI (w : World) (b : Bool) (e : Ending) (w' : World) : Prop := ∃ n : Int, e = .returned (.int .i64 n) ∧ (decide (n ≥ 0) = b) ∧ -1 ≤ n ∧ n ≤ 1000000 ∧ Below w.heap.size w w'
theorem any_take {f : T → Bool} {l : List T} {i : Nat} {u : T} (hu : l[i]? = some u) (h : (l.take i).any f = false) : (l.take (i + 1)).any f = f u := by
  rw [List.take_add_one, hu, List.any_append, h]
  simp
theorem any_of {f : T → Bool} {l : List T} {i : Nat} (h : (l.take i).any f = true) : l.any f = true := by
  rw [← List.take_append_drop i l, List.any_append, h]; rfl
set_option maxHeartbeats 8000000 in
set_option maxRecDepth 100000 in
theorem idx_d {K : Nat} {cap : Array Value} (he : ∀ args w, (callFunc K args).run Tryz.prog w = .ok (.enter K args) w) {f : T → Bool} {F : Nat → Prop} {w : World} {v : Value} {l : List T} {cl : List (List Value)} (r : RwA F w Vt 5 v cl) (hl : cl.length = l.length) (hb : cl.length ≤ 1000000)
    (hf : ∀ w', Below w.heap.size w w' → ∀ (j : Nat) (t : T) (c : List Value), l[j]? = some t → cl[j]? = some c → Calls Tryz.prog K (#[.agg c.toArray] ++ cap) w' fun e w2 => e = .returned (.bool (f t)) ∧ Below w'.heap.size w' w2) :
    Calls Tryz.prog 79 #[v, .func (.func K) #[] cap] w (AnI w (l.any f)) := by
  obtain ⟨sa, sc, rfl⟩ := r.slc
  replace r := hide1 r
  replace hf := hide1 hf
  replace hl := hide1 hl
  obtain ⟨B, hB⟩ : ∃ B, Hid (B = l.any f) := ⟨_, hide1 rfl⟩
  rw [← hB.out]
  go_enter Tryz.func79, Tryz.ntmps79
  go_wp2_with fail
  go_loopw [8] (fun x wr => ∃ i : Nat, x = .int .i64 (i : Nat) ∧ i ≤ cl.length ∧ Hid ((l.take i).any f = false) ∧ Hid (Below w.heap.size w wr)) (fun x _ => cl.length - (intOf x).toNat)
  case atStart => exact ⟨0, rfl, by omega, hide1 rfl, hide1 (Below.refl _ _)⟩
  case round =>
    obtain ⟨i, rfl, hin, hme, hbw⟩ := hrel
    by_cases hlt : i < cl.length
    · obtain ⟨x, hx⟩ : ∃ x, cl[i]? = some x := ⟨_, List.getElem?_eq_getElem hlt⟩
      obtain ⟨u, hu⟩ : ∃ u, l[i]? = some u := ⟨_, List.getElem?_eq_getElem (by have := hl.out; omega)⟩
      obtain ⟨b, o, cap', hve, -, hbl, hr⟩ := r.out.at hx
      have hva : sa = some ⟨b, o, none⟩ := by cases hve; rfl
      subst hva
      have hx5 := r.out.1 x (List.mem_of_getElem? hx)
      obtain ⟨x0, x1, x2, x3, x4, rfl⟩ : ∃ x0 x1 x2 x3 x4, x = [x0, x1, x2, x3, x4] := by
        match x, hx5 with
        | [x0, x1, x2, x3, x4], _ => exact ⟨x0, x1, x2, x3, x4, rfl⟩
      have hr2 : wr.rangeAt b (o + i * 5) [x0, x1, x2, x3, x4] := fun j v hj => by
        rw [World.cell?_of_block (w := w) (hbw.out.block b hbl)]
        exact hr j v hj
      have hc := hf.out wr hbw.out i u _ hu hx
      have hms := hide1 (any_take hu hme.out)
      clear hve hr hx hx5 hme hu
      go_wp2_with (refine wpList_load_mid rfl 28 (.tmp 14) rfl b (o + i * 5) rfl [x0, x1, x2, x3, x4] _ hr2 Tryz.underlying28 rfl (by kernel_rfl) ?_)
      refine hc.mono ?_
      rintro e w2 ⟨rfl, b2⟩
      have hb2 := hide1 (hbw.out.trans (b2.mono hbw.out.size))
      clear hc b2 hbw hr2
      cases hq : f u with
      | true =>
        have hfin : Hid (AnI w B (.returned (.int .i64 (i : Nat))) w2) := hide1 ⟨i, rfl, by rw [hB.out, any_of (hms.out.trans hq)]; exact decide_eq_true (by omega), by omega, by omega, hb2.out⟩
        clear hms hq hB
        go_wp2
        go_ret
        exact hfin.out
      | false =>
        replace hms := hide1 (hms.out.trans hq)
        clear hq
        go_wp2
        go_roundw
        case rel => exact ⟨i + 1, rfl, by omega, hms, hb2⟩
        case measure => simp [intOf]; omega
    · have hfin : Hid (AnI w B (.returned (.int .i64 (-1))) wr) := hide1 ⟨-1, rfl, by
        rw [hB.out]
        have := hme.out
        rw [List.take_of_length_le (by have := hl.out; omega)] at this
        rw [this]; rfl, by omega, by omega, hbw.out⟩
      have hie : i = cl.length := by omega
      subst hie
      clear hme hbw hlt hB
      go_wp2
      go_ret
      exact hfin.out
theorem cont_d {K : Nat} {cap : Array Value} (he : ∀ args w, (callFunc K args).run Tryz.prog w = .ok (.enter K args) w) {f : T → Bool} {F : Nat → Prop} {w : World} {v : Value} {l : List T} {cl : List (List Value)} (r : RwA F w Vt 5 v cl) (hl : cl.length = l.length) (hb : cl.length ≤ 1000000)
    (hf : ∀ w', Below w.heap.size w w' → ∀ (j : Nat) (t : T) (c : List Value), l[j]? = some t → cl[j]? = some c → Calls Tryz.prog K (#[.agg c.toArray] ++ cap) w' fun e w2 => e = .returned (.bool (f t)) ∧ Below w'.heap.size w' w2) :
    Calls Tryz.prog 61 #[v, .func (.func K) #[] cap] w fun e w' => e = .returned (.bool (l.any f)) ∧ Below w.heap.size w w' := by
  have hi := idx_d he r hl hb hf
  clear r hf hl hb
  generalize l.any f = B at *
  go_enter Tryz.func61, Tryz.ntmps61
  go_wp2_with fail
  refine hi.mono ?_
  rintro e w1 ⟨n, rfl, hn, _, _, b1⟩
  replace b1 := hide1 b1
  clear hi
  cases B with
  | true =>
    have hn' : n ≥ 0 := of_decide_eq_true hn
    go_wp2
    go_ret
    exact ⟨rfl, b1.out⟩
  | false =>
    have hn' : ¬ n ≥ 0 := of_decide_eq_false hn
    go_wp2
    go_ret
    exact ⟨rfl, b1.out⟩
/-- Is a value what some text is? So deep. -/
def Sok (n : Nat) : Prop := ∀ {F : Nat → Prop} {w : World} {t : T} {c : List Value} {h : Nat}, hgt h t → sbd h t → VA F w t c → Ev w → 8 ≤ w.heap.size → Calls Tryz.prog 24 #[.agg c.toArray, .int .i64 ((8 - n : Nat) : Int)] w fun e w' => e = .returned (.bool (gd n t)) ∧ Below w.heap.size w w'
theorem snd1_d {n h b : Nat} (ih : Sok n) {F : Nat → Prop} {w : World} {t : T} {c : List Value} (hh : hgt h t) (hs : sbd h t) (hv : VA F w t c) (hT : Ev w) (h8 : 8 ≤ w.heap.size) (hb : w.heap[b]? = some (.cells #[.int .i64 ((8 - n : Nat) : Int)] 3 (0, 0))) :
    Calls Tryz.prog 62 (#[.agg c.toArray] ++ #[.pointer (some ⟨b, 0, none⟩)]) w fun e w' => e = .returned (.bool (!gd n t)) ∧ Below w.heap.size w w' := by
  have hc5 := hv.len
  obtain ⟨y0, y1, y2, y3, y4, rfl⟩ := five_l hc5
  have hb0 : Below w.heap.size w (w.alloc (.cells #[y0, y1, y2, y3, y4] 28)) := (Below.refl _ _).alloc (Nat.le_refl _) _
  have hbl := (Array.getElem?_eq_some_iff.1 hb).1
  have hcb : (w.alloc (.cells #[y0, y1, y2, y3, y4] 28)).cell? ⟨b, 0, none⟩ = some (.int .i64 ((8 - n : Nat) : Int)) := by
    have := (hb0.block b hbl).trans hb
    simp only [World.cell?, this]; rfl
  have hc := ih (c := [y0, y1, y2, y3, y4]) hh hs (hv.frame (fun j _ hj => hb0.block j hj) (fun _ h _ => h)) (hT.below hb0 (by omega)) (by have := hb0.size; omega)
  replace hb0 := hide1 hb0
  generalize gd n t = B at *
  generalize ((8 - n : Nat) : Int) = D at *
  clear hv hT hb hc5 ih hh hs
  show Calls Tryz.prog 62 #[.agg #[y0, y1, y2, y3, y4], .pointer (some ⟨b, 0, none⟩)] w _
  go_enter Tryz.func62, Tryz.ntmps62
  go_wp2_with fail
  refine hc.mono ?_
  rintro e w1 ⟨rfl, b1⟩
  replace b1 := hide1 (hb0.out.trans (b1.mono hb0.out.size))
  clear hc hb0
  go_wp2
  go_ret
  exact ⟨rfl, b1.out⟩
theorem any_all {f : T → Bool} : ∀ l : List T, (!l.any fun t => !f t) = l.all f
  | [] => rfl
  | a :: l => by
    have := any_all (f := f) l
    simp only [List.any_cons, List.all_cons]
    rw [← this]
    cases f a <;> simp
set_option maxRecDepth 100000 in
theorem sndL_d {n h : Nat} (ih : Sok n) {F : Nat → Prop} {w : World} {v : Value} {l : List T} {cl : List (List Value)} (r : RwA F w Vt 5 v cl) (hl : cl.length = l.length) (hb : cl.length ≤ 1000000) (hh : ∀ t ∈ l, hgt h t) (hs : ∀ t ∈ l, sbd h t)
    (hv : ∀ (j : Nat) (t : T) (c : List Value), l[j]? = some t → cl[j]? = some c → VA F w t c) (hT : Ev w) (h8 : 8 ≤ w.heap.size) :
    Calls Tryz.prog 41 #[v, .int .i64 ((8 - n : Nat) : Int)] w fun e w' => e = .returned (.bool (l.all (gd n))) ∧ Below w.heap.size w w' := by
  obtain ⟨w1, hw1⟩ : ∃ w1, w1 = w.alloc (.cells #[.int .i64 ((8 - n : Nat) : Int)] 3) := ⟨_, rfl⟩
  have hb0 : Below w.heap.size w w1 := by rw [hw1]; exact (Below.refl _ _).alloc (Nat.le_refl _) _
  have hbx : w1.heap[w.heap.size]? = some (.cells #[.int .i64 ((8 - n : Nat) : Int)] 3 (0, 0)) := by
    rw [hw1]
    show (w.heap.push _)[w.heap.size]? = _
    rw [Array.getElem?_push, if_pos rfl]
  have hc := cont_d (K := 62) (cap := #[.pointer (some ⟨w.heap.size, 0, none⟩)]) (f := fun t => !gd n t) (fun _ _ => by kernel_rfl) (r.frame (w' := w1) (G := F) (fun j _ hj => hb0.block j hj) (fun _ h _ => h)) hl hb (fun w' hb' j t c h1 h2 =>
    snd1_d ih (hh t (List.mem_of_getElem? h1)) (hs t (List.mem_of_getElem? h1)) ((hv j t c h1 h2).frame (w' := w') (G := F) (fun k _ hk => (hb'.block k (Nat.lt_of_lt_of_le hk hb0.size)).trans (hb0.block k hk)) (fun _ h _ => h)) ((hT.below hb0 (by omega)).below hb' (by have := hb0.size; omega)) (by have := hb0.size; have := hb'.size; omega) ((hb'.block _ (Array.getElem?_eq_some_iff.1 hbx).1).trans hbx))
  have ha := any_all (f := gd n) l
  obtain ⟨sa, sc, rfl⟩ := r.slc
  replace hb0 := hide1 hb0
  rw [← ha]
  generalize (l.any fun t => !gd n t) = B at *
  generalize ((8 - n : Nat) : Int) = D at *
  clear ha r hh hs hv hT hbx ih hl
  go_enter Tryz.func41, Tryz.ntmps41
  go_wp2_with fail
  rw [← hw1]
  refine hc.mono ?_
  rintro e w2 ⟨rfl, b1⟩
  replace b1 := hide1 (hb0.out.trans (b1.mono hb0.out.size))
  clear hc hb0 hw1
  go_wp2
  go_ret
  exact ⟨rfl, b1.out⟩
end Go.Proofs.YtkkgcbaofdejjaaGreatDoor

namespace Go.Proofs.YtkkgcbaofdejjaaGreatDoor
open Go.RowKit Go.Shelf Go.Maps
attribute [local go_sem] Oper.semAt_some

theorem results_1b {fn : Func} {p : Tmp} (h : fn.results = #[.cell p 4]) (tmps : Array Value) {u : World} {b : Nat} {x : Bool} (ht : tmps.getD p undef = .pointer (some ⟨b, 0, none⟩)) (hc : u.heap[b]? = some (.cells #[.bool x] 4 (0, 0))) : (results fn tmps).run Tryz.prog u = .ok (.bool x) u := by
  have ht2 : tmps[p]?.getD undef = .pointer (some ⟨b, 0, none⟩) := by simpa using ht
  have hc2 : u.cell? ⟨b, 0, none⟩ = some (.bool x) := by simp only [World.cell?, hc]; rfl
  have hl2 : (loadVar 4 ⟨b, 0, none⟩).run Tryz.prog u = .ok (.bool x) u := by simp [go_sem, hc2]
  simp [results, h, ht2, asAddr, hl2]
/-- The boxes of soundPairs. -/
structure Sb (w : World) (c : Array Value) (a : Int) (b : Bool) (W : World) : Prop where
  bw : Below w.heap.size w W
  b2 : W.heap[w.heap.size]? = some (.cells c 28 (0, 0))
  b3 : W.heap[w.heap.size + 1]? = some (.cells #[.int .i64 a] 3 (0, 0))
  b4 : W.heap[w.heap.size + 2]? = some (.cells #[.bool b] 4 (0, 0))
theorem Sb.later {w W W' : World} {c : Array Value} {a : Int} {b : Bool} (h : Sb w c a b W) (k : Below W.heap.size W W') : Sb w c a b W' :=
  ⟨h.bw.trans (k.mono h.bw.size), (k.block _ (Array.getElem?_eq_some_iff.1 h.b2).1).trans h.b2, (k.block _ (Array.getElem?_eq_some_iff.1 h.b3).1).trans h.b3, (k.block _ (Array.getElem?_eq_some_iff.1 h.b4).1).trans h.b4⟩
theorem Sb.own {w W W' : World} {c : Array Value} {a : Int} {b : Bool} {row : Option Nat} (h : Sb w c a b W) (hg : W.grownBy W' row) (hr : ∀ r, row = some r → ∃ o : Obj, W.heap[r]? = some o ∧ o.isCells = false ∧ w.heap.size ≤ r) : Sb w c a b W' := by
  have hne : ∀ j cc t, W.heap[j]? = some (.cells cc t (0, 0)) → some j ≠ row := fun j cc t hj e => by
    obtain ⟨o, ho, hc, _⟩ := hr j e.symm
    rw [hj] at ho; cases ho; cases hc
  refine ⟨⟨hg.os.trans h.bw.os, hg.tape.trans h.bw.tape, hg.output.trans h.bw.output, Nat.le_trans h.bw.size hg.size, fun j hj => (hg.block j (Nat.lt_of_lt_of_le hj h.bw.size) (fun e => ?_)).trans (h.bw.block j hj)⟩, (hg.block _ (Array.getElem?_eq_some_iff.1 h.b2).1 (hne _ _ _ h.b2)).trans h.b2, (hg.block _ (Array.getElem?_eq_some_iff.1 h.b3).1 (hne _ _ _ h.b3)).trans h.b3, (hg.block _ (Array.getElem?_eq_some_iff.1 h.b4).1 (hne _ _ _ h.b4)).trans h.b4⟩
  obtain ⟨o, ho, hc, hl⟩ := hr j e.symm
  omega
theorem all_snoc {f : List UInt8 × T → Bool} {qs : List (List UInt8 × T)} {k : Nat} {q : List UInt8 × T} (hq : qs[k]? = some q) (h : (qs.take k).all f = true) : (qs.take (k + 1)).all f = f q := by
  rw [List.take_add_one, hq, List.all_append, h]
  simp
theorem all_of {f : List UInt8 × T → Bool} {qs : List (List UInt8 × T)} {k : Nat} (h : (qs.take k).all f = false) : qs.all f = false := by
  rw [← List.take_append_drop k qs, List.all_append, h]; rfl
set_option maxRecDepth 100000 in
set_option maxHeartbeats 8000000 in
theorem sndP_in {n h : Nat} (ih : Sok n) {F : Nat → Prop} {w : World} {ki : Int} {s : List UInt8} {sl sp : Value} {p : List (List UInt8 × T)} {cp : List (List Value)} (r : RwA F w Pt 6 sp cp) (hl : cp.length = p.length) (hb : cp.length ≤ 1000000) (hh : ∀ q ∈ p, hgt h q.2) (hs : ∀ q ∈ p, q.1.length ≤ 9223372036854775807 ∧ sbd h q.2)
    (hv : ∀ (j : Nat) (q : List UInt8 × T) (c : List Value), p[j]? = some q → cp[j]? = some c → PA F w q c) (hT : Ev w) (h8 : 8 ≤ w.heap.size) :
    CallsIn Fence.wide 5 Tryz.prog 42 #[.agg #[.int .i64 5, .int .i64 ki, .string (st s), sl, sp], .int .i64 ((8 - n : Nat) : Int)] w fun e w' => e = .returned (.bool (p.all (fun q => Lib.validD q.1 && gd n q.2) && onc (p.map (·.1)))) ∧ Below w.heap.size w w' := by
  obtain ⟨A, hA⟩ : ∃ A, Hid (A = p.all (fun q => Lib.validD q.1 && gd n q.2)) := ⟨_, hide1 rfl⟩
  obtain ⟨O, hO⟩ : ∃ O, Hid (O = onc (p.map (·.1))) := ⟨_, hide1 rfl⟩
  rw [← hA.out, ← hO.out]
  have hnmo : ∀ c ∈ cp, c.all (·.oneCell') = true := fun x hx => by
    obtain ⟨j, hj, rfl⟩ := List.mem_iff_getElem.1 hx
    have hj2 : j < p.length := by omega
    obtain ⟨g1, g2⟩ := hv j _ _ (List.getElem?_eq_getElem hj2) (List.getElem?_eq_getElem hj)
    have g3 := g2.one
    generalize cp[j] = x at *
    cases x with
    | nil => cases g1
    | cons a b =>
      simp at g1
      subst g1
      simpa [Value.oneCell'] using g3
  have hna : NmA F w sp cp (p.map (·.1)) := ⟨r, by simp [hl], fun j c s' h1 h2 => by
      rw [List.getElem?_map] at h2
      cases hq : p[j]? with
      | none => rw [hq] at h2; cases h2
      | some q =>
        rw [hq] at h2
        cases h2
        exact (hv j q c hq h1).1, fun s' hs' => by
      obtain ⟨q, hq, rfl⟩ := List.mem_map.1 hs'
      exact (hs q hq).1, hnmo⟩
  obtain ⟨pa, pc, rfl⟩ := r.slc
  refine callsIn_of_wp_marks Tryz.func42 rfl trivial ?_ rfl
  simp only [Tryz.ntmps42, List.size_toArray, List.length_cons, List.length_nil, Nat.reduceAdd, Nat.reduceSub, Array.replicate_succ, Array.replicate_zero, List.push_toArray, List.append_toArray, List.nil_append, List.cons_append]
  obtain ⟨D, hD⟩ : ∃ D, Hid (D = ((8 - n : Nat) : Int)) := ⟨_, hide1 rfl⟩
  rw [← hD.out]
  replace hv := hide1 hv
  replace hh := hide1 hh
  replace hs := hide1 hs
  replace hna := hide1 hna
  replace hl := hide1 hl
  gi_wp2
  refine ⟨trivial, (callsIn_wide.2 (pairs_d _ _)).mono ?_⟩
  rintro e W1 ⟨rfl, rfl⟩
  have hbw : Below w.heap.size w ((((w.alloc (.cells #[.int .i64 5, .int .i64 ki, .string (st s), sl, .slice pa cp.length pc] 28)).alloc (.cells #[.int .i64 D] 3)).alloc (.cells #[.bool false] 4)).alloc (.cells #[.int .i64 5, .int .i64 ki, .string (st s), sl, .slice pa cp.length pc] 28)) := blw_al (blw_al (blw_al (blw_al (Below.refl _ _) (Nat.le_refl _) _) (by simp) _) (by simp; omega) _) (by simp; omega) _
  have hsz : ((((w.alloc (.cells #[.int .i64 5, .int .i64 ki, .string (st s), sl, .slice pa cp.length pc] 28)).alloc (.cells #[.int .i64 D] 3)).alloc (.cells #[.bool false] 4)).alloc (.cells #[.int .i64 5, .int .i64 ki, .string (st s), sl, .slice pa cp.length pc] 28)).heap.size = w.heap.size + 4 := by simp
  have hG : Sb w #[.int .i64 5, .int .i64 ki, .string (st s), sl, .slice pa cp.length pc] D false ((((w.alloc (.cells #[.int .i64 5, .int .i64 ki, .string (st s), sl, .slice pa cp.length pc] 28)).alloc (.cells #[.int .i64 D] 3)).alloc (.cells #[.bool false] 4)).alloc (.cells #[.int .i64 5, .int .i64 ki, .string (st s), sl, .slice pa cp.length pc] 28)) := by
    refine ⟨hbw, ?_, ?_, ?_⟩
    · show ((((w.heap.push _).push _).push _).push _)[w.heap.size]? = _
      rw [Array.getElem?_push, if_neg (by simp; omega), Array.getElem?_push, if_neg (by simp; omega), Array.getElem?_push, if_neg (by simp), Array.getElem?_push, if_pos (by simp)]
    · show ((((w.heap.push _).push _).push _).push _)[w.heap.size + 1]? = _
      rw [Array.getElem?_push, if_neg (by simp), Array.getElem?_push, if_neg (by simp), Array.getElem?_push, if_pos (by simp)]
    · show ((((w.heap.push _).push _).push _).push _)[w.heap.size + 2]? = _
      rw [Array.getElem?_push, if_neg (by simp), Array.getElem?_push, if_pos (by simp)]
  have hbx : ((((w.alloc (.cells #[.int .i64 5, .int .i64 ki, .string (st s), sl, .slice pa cp.length pc] 28)).alloc (.cells #[.int .i64 D] 3)).alloc (.cells #[.bool false] 4)).alloc (.cells #[.int .i64 5, .int .i64 ki, .string (st s), sl, .slice pa cp.length pc] 28)).heap[w.heap.size + 3]? = some (.cells #[.int .i64 5, .int .i64 ki, .string (st s), sl, .slice pa cp.length pc] 28 (0, 0)) := by
    show ((((w.heap.push _).push _).push _).push _)[w.heap.size + 3]? = _
    rw [Array.getElem?_push, if_pos (by simp)]
  have hsq := pairs_seq hb r hnmo hbw hbx
  gi_wp2
  generalize ((((w.alloc (.cells #[.int .i64 5, .int .i64 ki, .string (st s), sl, .slice pa cp.length pc] 28)).alloc (.cells #[.int .i64 D] 3)).alloc (.cells #[.bool false] 4)).alloc (.cells #[.int .i64 5, .int .i64 ki, .string (st s), sl, .slice pa cp.length pc] 28)) = W0 at *
  refine range_y (w := W0) (gf := 46) (lb := #[.pointer (some ⟨w.heap.size + 3, 0, none⟩)]) rfl (fun _ _ => by kernel_rfl) hsq (fun j hj => by rw [hsz]; rcases hj with hj | hj <;> omega)
    (fun k W => Sb w #[.int .i64 5, .int .i64 ki, .string (st s), sl, .slice pa cp.length pc] D false W ∧ (p.take k).all (fun q => Lib.validD q.1 && gd n q.2) = true)
    (fun c _ W => c = .ret ∧ A = false ∧ Sb w #[.int .i64 5, .int .i64 ki, .string (st s), sl, .slice pa cp.length pc] D false W) ?hI ?hIx ⟨hG, rfl⟩ ?round ?done ?stop
  case hI =>
    intro k A B row h hg hr
    exact ⟨h.1.own hg (fun r e => by obtain ⟨h1, ob, h2, h3⟩ := hr r e; exact ⟨ob, h2, h3, by omega⟩), h.2⟩
  case hIx =>
    rintro c k A B row ⟨hc, h1, h4⟩ hg hr
    exact ⟨hc, h1, h4.own hg (fun r e => by obtain ⟨h1, ob, h2, h3⟩ := hr r e; exact ⟨ob, h2, h3, by omega⟩)⟩
  case round =>
    intro lq k hk W Kq hz hI hK
    rw [hnd_len] at hk
    obtain ⟨x, hx⟩ : ∃ x, cp[k]? = some x := ⟨_, List.getElem?_eq_getElem hk⟩
    obtain ⟨q, hqk⟩ : ∃ q, p[k]? = some q := ⟨_, List.getElem?_eq_getElem (by have := hl.out; omega)⟩
    have hpa := hv.out k q x hqk hx
    have hx6 := r.1 x (List.mem_of_getElem? hx)
    have hhg := hh.out q (List.mem_of_getElem? hqk)
    obtain ⟨hsq1, hsq2⟩ := hs.out q (List.mem_of_getElem? hqk)
    have hit : (cp.map hnd)[k]'(by rw [hnd_len]; exact hk) = hnd x := by
      rw [List.getElem_map]
      congr 1
      have := List.getElem?_eq_getElem hk
      rw [hx] at this
      exact (Option.some.inj this).symm
    rw [hit]
    obtain ⟨x0, x1, x2, x3, x4, x5, rfl⟩ := arr6 hx6
    have hx0 : x0 = .string (st q.1) := by simpa using hpa.1
    subst hx0
    have hva : VA F w q.2 [x1, x2, x3, x4, x5] := hpa.2
    have hon := hva.one
    simp only [hnd, List.headD_cons, List.tail_cons]
    have hr7 : (W.alloc (.cells #[.int .i64 0, .int .i64 0, .string ⟨#[]⟩, .slice none 0 0, .slice none 0 0] 28)).heap[W.heap.size]? = some (.cells #[.int .i64 0, .int .i64 0, .string ⟨#[]⟩, .slice none 0 0, .slice none 0 0] 28 (0, 0)) := by
      show (W.heap.push _)[W.heap.size]? = _
      rw [Array.getElem?_push, if_pos rfl]
    have h7 := setRow_heap (W.alloc (.cells #[.int .i64 0, .int .i64 0, .string ⟨#[]⟩, .slice none 0 0, .slice none 0 0] 28)) W.heap.size _ #[x1, x2, x3, x4, x5] _ _ hr7
    have hal : ∀ j, j < W.heap.size → ((W.alloc (.cells #[.int .i64 0, .int .i64 0, .string ⟨#[]⟩, .slice none 0 0, .slice none 0 0] 28)).setRow W.heap.size #[x1, x2, x3, x4, x5]).heap[j]? = W.heap[j]? := fun j hj => (setRow_other _ _ j _ (by omega)).trans (by
      show (W.heap.push _)[j]? = _
      rw [Array.getElem?_push, if_neg (by omega)])
    have hb7 : Below W.heap.size W ((W.alloc (.cells #[.int .i64 0, .int .i64 0, .string ⟨#[]⟩, .slice none 0 0, .slice none 0 0] 28)).setRow W.heap.size #[x1, x2, x3, x4, x5]) := ⟨rfl, rfl, rfl, by simp [World.setRow], hal⟩
    have hs7 : ((W.alloc (.cells #[.int .i64 0, .int .i64 0, .string ⟨#[]⟩, .slice none 0 0, .slice none 0 0] 28)).setRow W.heap.size #[x1, x2, x3, x4, x5]).heap.size = W.heap.size + 1 := by simp [World.setRow]
    have hf := all_snoc hqk hI.2
    replace hon := hide1 hon
    replace hva := hide1 hva
    clear hit hx hpa hx6 hal
    gi_wp2_with (refine wpListIn_str rfl 28 (.tmp 6) (.tmp 12) rfl W.heap.size #[x1, x2, x3, x4, x5] rfl rfl 28 _ hr7 (by kernel_rfl) rfl (by simpa using hon.out) ?_)
    refine hK _ _ hb7 ?_
    rintro W2 hsame hs2 ⟨hG2, hf2⟩
    have h72 := (hsame W.heap.size (by omega)).trans h7
    have hsz2 : w.heap.size + 4 ≤ W2.heap.size := by rw [hs2, hs7]; omega
    have hT2 := hT.below hG2.bw (by omega)
    have hcv := utf8_ValidString (st q.1) W2 (by rw [st_size]; exact hsq1) hT2.tb
    rw [st_data] at hcv
    replace hG2 := hide1 hG2
    replace hf := hide1 hf
    replace hT2 := hide1 hT2
    replace hI := hide1 hI
    clear hK hsame h7 hf2
    gi_wp2
    refine ⟨trivial, (CallsIn.inRound lq (callsIn_wide.2 hcv)).mono ?_⟩
    rintro e W3 ⟨rfl, b3⟩
    have hG3 := hide1 (hG2.out.later b3)
    have h73 := (b3.block _ (Array.getElem?_eq_some_iff.1 h72).1).trans h72
    have l0 : W3.cell? ⟨W.heap.size, 0, none⟩ = some x1 := by simp only [World.cell?, h73]; rfl
    have l1 : W3.cell? ⟨W.heap.size, 1, none⟩ = some x2 := by simp only [World.cell?, h73]; rfl
    have l2 : W3.cell? ⟨W.heap.size, 2, none⟩ = some x3 := by simp only [World.cell?, h73]; rfl
    have l3 : W3.cell? ⟨W.heap.size, 3, none⟩ = some x4 := by simp only [World.cell?, h73]; rfl
    have l4 : W3.cell? ⟨W.heap.size, 4, none⟩ = some x5 := by simp only [World.cell?, h73]; rfl
    have c3 : W3.cell? ⟨w.heap.size + 1, 0, none⟩ = some (.int .i64 D) := by simp only [World.cell?, hG3.out.b3]; rfl
    have hT3 := hide1 (hT2.out.below b3 (by omega))
    have hsz3 : W2.heap.size ≤ W3.heap.size := b3.size
    have stop : ∀ W4, Below W2.heap.size W2 W4 → (Lib.validD q.1 && gd n q.2) = false → Hid (outX W0.heap.size (fun j => j < w.heap.size ∨ j = w.heap.size + 3) (fun k W => Sb w #[.int .i64 5, .int .i64 ki, .string (st s), sl, .slice pa cp.length pc] D false W ∧ (p.take k).all (fun q => Lib.validD q.1 && gd n q.2) = true) (fun c _ W => c = .ret ∧ A = false ∧ Sb w #[.int .i64 5, .int .i64 ki, .string (st s), sl, .slice pa cp.length pc] D false W) k W2 .ret { tmps := #[], defers := [] } (W4.setCell ⟨w.heap.size + 2, 0, none⟩ (.bool false))) := fun W4 b4 hbad => hide1 (by
      have g := hG2.out.later b4
      have hw5 : W4.setCell ⟨w.heap.size + 2, 0, none⟩ (.bool false) = W4.setRow (w.heap.size + 2) #[.bool false] := by
        rw [setCell_eq_setRow _ (w.heap.size + 2) 0 _ _ (0, 0) _ g.b4]; rfl
      rw [hw5]
      refine ⟨(Kx.below b4).row _ (by omega) (by omega), rfl, ?_, blw_own g.bw (by omega) _, (setRow_other _ _ _ _ (by omega)).trans g.b2, (setRow_other _ _ _ _ (by omega)).trans g.b3, setRow_heap _ _ _ _ _ _ g.b4⟩
      rw [hA.out]
      exact all_of (hf.out.trans hbad))
    replace stop := hide1 stop
    cases hvd : Lib.validD q.1 with
    | false =>
      have hfin := stop.out W3 b3 (by rw [hvd]; rfl)
      have c4 : W3.cell? ⟨w.heap.size + 2, 0, none⟩ = some (.bool false) := by simp only [World.cell?, hG3.out.b4]; rfl
      have f4 : W3.frozen? ⟨w.heap.size + 2, 0, none⟩ = false := by simp [World.frozen?, hG3.out.b4]
      clear stop hcv b3 hvd
      gi_wp2
      refine ⟨trivial, ?_⟩
      rename_i Kz hKz
      refine hKz _ _ ?_
      gi_wp2
      exact hfin.out
    | true =>
      have hcs := ih (w := W3) (c := [x1, x2, x3, x4, x5]) hhg hsq2 (VA.frame (c := [x1, x2, x3, x4, x5]) hva.out (w' := W3) (G := F) (fun j _ hj => hG3.out.bw.block j hj) (fun _ h _ => h)) hT3.out (by omega)
      rw [← hD.out] at hcs
      replace b3 := hide1 b3
      replace hvd := hide1 hvd
      clear hcv
      gi_wp2
      refine ⟨trivial, (CallsIn.inRound lq (callsIn_wide.2 hcs)).mono ?_⟩
      rintro e W4 ⟨rfl, b4⟩
      have b24 := hide1 (b3.out.trans (b4.mono b3.out.size))
      have hG4 := hide1 (hG3.out.later b4)
      cases hgq : gd n q.2 with
      | false =>
        have hfin := stop.out W4 b24.out (by rw [hgq, hvd.out]; rfl)
        have c4 : W4.cell? ⟨w.heap.size + 2, 0, none⟩ = some (.bool false) := by simp only [World.cell?, hG4.out.b4]; rfl
        have f4 : W4.frozen? ⟨w.heap.size + 2, 0, none⟩ = false := by simp [World.frozen?, hG4.out.b4]
        clear stop hcs b4 hgq
        gi_wp2
        exact hfin.out
      | true =>
        have hfin : Hid (Kx W0.heap.size (fun j => j < w.heap.size ∨ j = w.heap.size + 3) W2 W4 ∧ Sb w #[.int .i64 5, .int .i64 ki, .string (st s), sl, .slice pa cp.length pc] D false W4 ∧ (p.take (k + 1)).all (fun q => Lib.validD q.1 && gd n q.2) = true) := hide1 ⟨Kx.below b24.out, hG4.out, by rw [hf.out, hvd.out, hgq]; rfl⟩
        clear stop hcs b4 hgq
        gi_wp2
        exact hfin.out
  case done =>
    rintro E W hE ⟨hGW, hf⟩ hK
    have hAt : A = true := by
      rw [hnd_len, List.take_of_length_le (by have := hl.out; omega)] at hf
      rw [hA.out, hf]
    subst hAt
    have c4 : W.cell? ⟨w.heap.size, 4, none⟩ = some (.slice pa cp.length pc) := by simp only [World.cell?, hGW.b2]; rfl
    have hna2 : NmA F W (.slice pa cp.length pc) cp (p.map (·.1)) := ⟨hna.out.rw.frame (fun j _ hj => hGW.bw.block j hj) (fun _ h _ => h), hna.out.ln, hna.out.nm, hna.out.sm, hna.out.on⟩
    have hpl := places_d hna2 (by omega)
    replace hGW := hide1 hGW
    replace hK := hide1 hK
    clear hf hna2
    gi_wp2
    refine ⟨trivial, (callsIn_wide.2 hpl).mono ?_⟩
    rintro e W2 ⟨mb, MD, mn, rfl, b2, hmb, hmo, hmi⟩
    have hG2 := hGW.out.later b2
    have hK2 := (b2.block _ (Array.getElem?_eq_some_iff.1 hK.out).1).trans hK.out
    have c5 : W2.cell? ⟨w.heap.size + 2, 0, none⟩ = some (.bool false) := by simp only [World.cell?, hG2.b4]; rfl
    have f5 : W2.frozen? ⟨w.heap.size + 2, 0, none⟩ = false := by simp [World.frozen?, hG2.b4]
    have hne : E ≠ w.heap.size + 2 := by rintro rfl; rw [hG2.b4] at hK2; cases hK2
    rw [← hO.out]
    have hw5 : W2.setCell ⟨w.heap.size + 2, 0, none⟩ (.bool O) = W2.setRow (w.heap.size + 2) #[.bool O] := by
      rw [setCell_eq_setRow _ (w.heap.size + 2) 0 _ _ (0, 0) _ hG2.b4]; rfl
    have hDK : (W2.setCell ⟨w.heap.size + 2, 0, none⟩ (.bool O)).heap[E]? = some (.deferred (some [])) := by
      rw [hw5]
      exact (setRow_other _ _ _ _ hne).trans hK2
    have hb5 : (W2.setCell ⟨w.heap.size + 2, 0, none⟩ (.bool O)).heap[w.heap.size + 2]? = some (.cells #[.bool O] 4 (0, 0)) := by
      rw [hw5]
      exact setRow_heap _ _ _ _ _ _ hG2.b4
    have hbb : Below w.heap.size w (W2.setCell ⟨w.heap.size + 2, 0, none⟩ (.bool O)) := by
      rw [hw5]
      exact blw_own hG2.bw (by omega) _
    replace hDK := hide1 hDK
    replace hb5 := hide1 hb5
    replace hbb := hide1 hbb
    replace hne := hide1 hne
    clear hG2 hw5 hpl hmo hmi b2 hK2
    gi_wp2
    refine ⟨by simp, .inl ⟨_, _, rfl, run_takeDeferred hDK.out, ?_⟩⟩
    refine ⟨_, results_1b rfl _ rfl ((World.putObj_heap_other (fun e => hne.out e.symm)).trans hb5.out), ?_⟩
    exact ⟨by rw [Bool.true_and], blw_done hbb.out (by omega) hDK.out⟩
  case stop =>
    rintro E c k W hE hk ⟨rfl, h1, h4⟩ hK
    have hne : w.heap.size + 2 ≠ E := by rintro rfl; rw [h4.b4] at hK; cases hK
    gi_wp2
    refine ⟨by simp, .inl ⟨_, _, rfl, run_takeDeferred hK, ?_⟩⟩
    refine ⟨_, results_1b rfl _ rfl ((World.putObj_heap_other hne).trans h4.b4), ?_⟩
    exact ⟨by rw [h1]; rfl, blw_done h4.bw (by omega) hK⟩
end Go.Proofs.YtkkgcbaofdejjaaGreatDoor

namespace Go.Proofs.YtkkgcbaofdejjaaGreatDoor
open Go.RowKit

theorem below_al {w : World} (o : Obj) : Below w.heap.size w (w.alloc o) := (Below.refl _ _).alloc (Nat.le_refl _) _
theorem new_at (w : World) (c : Array Value) (t : TypeId) : (w.alloc (.cells c t)).heap[w.heap.size]? = some (.cells c t (0, 0)) := by
  show (w.heap.push _)[w.heap.size]? = _
  rw [Array.getElem?_push, if_pos rfl]
set_option maxHeartbeats 4000000 in
set_option maxRecDepth 100000 in
theorem snd_sp {k i : Int} {s : List UInt8} {sa pa : Option Addr} {cl cp : List (List Value)} {sc pc : Nat} {w : World} {D : Int} (hsp0 : spB k i s cl.length cp.length = true) : Calls Tryz.prog 24 #[.agg #[.int .i64 k, .int .i64 i, .string (st s), .slice sa cl.length sc, .slice pa cp.length pc], .int .i64 D] w fun e w' => e = .returned (.bool false) ∧ Below w.heap.size w w' := by
  have hb0 := below_al (w := w) (.cells #[.int .i64 k, .int .i64 i, .string (st s), .slice sa cl.length sc, .slice pa cp.length pc] 28)
  have hbx := new_at w #[.int .i64 k, .int .i64 i, .string (st s), .slice sa cl.length sc, .slice pa cp.length pc] 28
  obtain ⟨w1, hw1⟩ : ∃ w1, w1 = w.alloc (.cells #[.int .i64 k, .int .i64 i, .string (st s), .slice sa cl.length sc, .slice pa cp.length pc] 28) := ⟨_, rfl⟩
  rw [← hw1] at hb0 hbx
  have hsp := spare_d (k := k) (i := i) (s := s) (sa := sa) (pa := pa) (nl := cl.length) (np := cp.length) (sc := sc) (pc := pc) (w := w1)
  rw [hsp0] at hsp
  replace hb0 := hide1 hb0
  replace hbx := hide1 hbx
  go_enter Tryz.func24, Tryz.ntmps24
  go_wp2_with fail
  rw [← hw1]
  refine hsp.mono ?_
  rintro e w2 ⟨rfl, b2⟩
  have hB := hide1 (hb0.out.trans (b2.mono hb0.out.size))
  have hbx2 := (b2.block _ (Array.getElem?_eq_some_iff.1 hbx.out).1).trans hbx.out
  have c0 : w2.cell? ⟨w.heap.size, 0, none⟩ = some (.int .i64 k) := by simp only [World.cell?, hbx2]; rfl
  have c1 : w2.cell? ⟨w.heap.size, 1, none⟩ = some (.int .i64 i) := by simp only [World.cell?, hbx2]; rfl
  have c2 : w2.cell? ⟨w.heap.size, 2, none⟩ = some (.string (st s)) := by simp only [World.cell?, hbx2]; rfl
  have c3 : w2.cell? ⟨w.heap.size, 3, none⟩ = some (.slice sa cl.length sc) := by simp only [World.cell?, hbx2]; rfl
  have c4 : w2.cell? ⟨w.heap.size, 4, none⟩ = some (.slice pa cp.length pc) := by simp only [World.cell?, hbx2]; rfl
  clear hsp b2 hw1 hb0 hbx
  go_wp2
  go_ret
  exact ⟨rfl, hB.out⟩
set_option maxHeartbeats 4000000 in
set_option maxRecDepth 100000 in
theorem snd_0 {i : Int} {s : List UInt8} {sa pa : Option Addr} {cl cp : List (List Value)} {sc pc : Nat} {w : World} {D : Int} (hsp0 : spB 0 i s cl.length cp.length = false) : Calls Tryz.prog 24 #[.agg #[.int .i64 0, .int .i64 i, .string (st s), .slice sa cl.length sc, .slice pa cp.length pc], .int .i64 D] w fun e w' => e = .returned (.bool true) ∧ Below w.heap.size w w' := by
  have hb0 := below_al (w := w) (.cells #[.int .i64 0, .int .i64 i, .string (st s), .slice sa cl.length sc, .slice pa cp.length pc] 28)
  have hbx := new_at w #[.int .i64 0, .int .i64 i, .string (st s), .slice sa cl.length sc, .slice pa cp.length pc] 28
  obtain ⟨w1, hw1⟩ : ∃ w1, w1 = w.alloc (.cells #[.int .i64 0, .int .i64 i, .string (st s), .slice sa cl.length sc, .slice pa cp.length pc] 28) := ⟨_, rfl⟩
  rw [← hw1] at hb0 hbx
  have hsp := spare_d (k := 0) (i := i) (s := s) (sa := sa) (pa := pa) (nl := cl.length) (np := cp.length) (sc := sc) (pc := pc) (w := w1)
  rw [hsp0] at hsp
  replace hb0 := hide1 hb0
  replace hbx := hide1 hbx
  go_enter Tryz.func24, Tryz.ntmps24
  go_wp2_with fail
  rw [← hw1]
  refine hsp.mono ?_
  rintro e w2 ⟨rfl, b2⟩
  have hB := hide1 (hb0.out.trans (b2.mono hb0.out.size))
  have hbx2 := (b2.block _ (Array.getElem?_eq_some_iff.1 hbx.out).1).trans hbx.out
  have c0 : w2.cell? ⟨w.heap.size, 0, none⟩ = some (.int .i64 (0)) := by simp only [World.cell?, hbx2]; rfl
  have c1 : w2.cell? ⟨w.heap.size, 1, none⟩ = some (.int .i64 i) := by simp only [World.cell?, hbx2]; rfl
  have c2 : w2.cell? ⟨w.heap.size, 2, none⟩ = some (.string (st s)) := by simp only [World.cell?, hbx2]; rfl
  have c3 : w2.cell? ⟨w.heap.size, 3, none⟩ = some (.slice sa cl.length sc) := by simp only [World.cell?, hbx2]; rfl
  have c4 : w2.cell? ⟨w.heap.size, 4, none⟩ = some (.slice pa cp.length pc) := by simp only [World.cell?, hbx2]; rfl
  clear hsp b2 hw1 hb0 hbx
  go_wp2
  go_ret
  exact ⟨rfl, hB.out⟩
set_option maxHeartbeats 4000000 in
set_option maxRecDepth 100000 in
theorem snd_10  {s : List UInt8} {sa pa : Option Addr} {cl cp : List (List Value)} {sc pc : Nat} {w : World} {D : Int} (hsp0 : spB 1 0 s cl.length cp.length = false) : Calls Tryz.prog 24 #[.agg #[.int .i64 1, .int .i64 0, .string (st s), .slice sa cl.length sc, .slice pa cp.length pc], .int .i64 D] w fun e w' => e = .returned (.bool true) ∧ Below w.heap.size w w' := by
  have hb0 := below_al (w := w) (.cells #[.int .i64 1, .int .i64 0, .string (st s), .slice sa cl.length sc, .slice pa cp.length pc] 28)
  have hbx := new_at w #[.int .i64 1, .int .i64 0, .string (st s), .slice sa cl.length sc, .slice pa cp.length pc] 28
  obtain ⟨w1, hw1⟩ : ∃ w1, w1 = w.alloc (.cells #[.int .i64 1, .int .i64 0, .string (st s), .slice sa cl.length sc, .slice pa cp.length pc] 28) := ⟨_, rfl⟩
  rw [← hw1] at hb0 hbx
  have hsp := spare_d (k := 1) (i := 0) (s := s) (sa := sa) (pa := pa) (nl := cl.length) (np := cp.length) (sc := sc) (pc := pc) (w := w1)
  rw [hsp0] at hsp
  replace hb0 := hide1 hb0
  replace hbx := hide1 hbx
  go_enter Tryz.func24, Tryz.ntmps24
  go_wp2_with fail
  rw [← hw1]
  refine hsp.mono ?_
  rintro e w2 ⟨rfl, b2⟩
  have hB := hide1 (hb0.out.trans (b2.mono hb0.out.size))
  have hbx2 := (b2.block _ (Array.getElem?_eq_some_iff.1 hbx.out).1).trans hbx.out
  have c0 : w2.cell? ⟨w.heap.size, 0, none⟩ = some (.int .i64 (1)) := by simp only [World.cell?, hbx2]; rfl
  have c1 : w2.cell? ⟨w.heap.size, 1, none⟩ = some (.int .i64 (0)) := by simp only [World.cell?, hbx2]; rfl
  have c2 : w2.cell? ⟨w.heap.size, 2, none⟩ = some (.string (st s)) := by simp only [World.cell?, hbx2]; rfl
  have c3 : w2.cell? ⟨w.heap.size, 3, none⟩ = some (.slice sa cl.length sc) := by simp only [World.cell?, hbx2]; rfl
  have c4 : w2.cell? ⟨w.heap.size, 4, none⟩ = some (.slice pa cp.length pc) := by simp only [World.cell?, hbx2]; rfl
  clear hsp b2 hw1 hb0 hbx
  go_wp2
  go_ret
  exact ⟨rfl, hB.out⟩
set_option maxHeartbeats 4000000 in
set_option maxRecDepth 100000 in
theorem snd_11  {s : List UInt8} {sa pa : Option Addr} {cl cp : List (List Value)} {sc pc : Nat} {w : World} {D : Int} (hsp0 : spB 1 1 s cl.length cp.length = false) : Calls Tryz.prog 24 #[.agg #[.int .i64 1, .int .i64 1, .string (st s), .slice sa cl.length sc, .slice pa cp.length pc], .int .i64 D] w fun e w' => e = .returned (.bool true) ∧ Below w.heap.size w w' := by
  have hb0 := below_al (w := w) (.cells #[.int .i64 1, .int .i64 1, .string (st s), .slice sa cl.length sc, .slice pa cp.length pc] 28)
  have hbx := new_at w #[.int .i64 1, .int .i64 1, .string (st s), .slice sa cl.length sc, .slice pa cp.length pc] 28
  obtain ⟨w1, hw1⟩ : ∃ w1, w1 = w.alloc (.cells #[.int .i64 1, .int .i64 1, .string (st s), .slice sa cl.length sc, .slice pa cp.length pc] 28) := ⟨_, rfl⟩
  rw [← hw1] at hb0 hbx
  have hsp := spare_d (k := 1) (i := 1) (s := s) (sa := sa) (pa := pa) (nl := cl.length) (np := cp.length) (sc := sc) (pc := pc) (w := w1)
  rw [hsp0] at hsp
  replace hb0 := hide1 hb0
  replace hbx := hide1 hbx
  go_enter Tryz.func24, Tryz.ntmps24
  go_wp2_with fail
  rw [← hw1]
  refine hsp.mono ?_
  rintro e w2 ⟨rfl, b2⟩
  have hB := hide1 (hb0.out.trans (b2.mono hb0.out.size))
  have hbx2 := (b2.block _ (Array.getElem?_eq_some_iff.1 hbx.out).1).trans hbx.out
  have c0 : w2.cell? ⟨w.heap.size, 0, none⟩ = some (.int .i64 (1)) := by simp only [World.cell?, hbx2]; rfl
  have c1 : w2.cell? ⟨w.heap.size, 1, none⟩ = some (.int .i64 (1)) := by simp only [World.cell?, hbx2]; rfl
  have c2 : w2.cell? ⟨w.heap.size, 2, none⟩ = some (.string (st s)) := by simp only [World.cell?, hbx2]; rfl
  have c3 : w2.cell? ⟨w.heap.size, 3, none⟩ = some (.slice sa cl.length sc) := by simp only [World.cell?, hbx2]; rfl
  have c4 : w2.cell? ⟨w.heap.size, 4, none⟩ = some (.slice pa cp.length pc) := by simp only [World.cell?, hbx2]; rfl
  clear hsp b2 hw1 hb0 hbx
  go_wp2
  go_ret
  exact ⟨rfl, hB.out⟩
set_option maxHeartbeats 4000000 in
set_option maxRecDepth 100000 in
theorem snd_1o {i : Int} {s : List UInt8} {sa pa : Option Addr} {cl cp : List (List Value)} {sc pc : Nat} {w : World} {D : Int} (hsp0 : spB 1 i s cl.length cp.length = false) (i0 : i ≠ 0) (i1 : i ≠ 1) : Calls Tryz.prog 24 #[.agg #[.int .i64 1, .int .i64 i, .string (st s), .slice sa cl.length sc, .slice pa cp.length pc], .int .i64 D] w fun e w' => e = .returned (.bool false) ∧ Below w.heap.size w w' := by
  have hb0 := below_al (w := w) (.cells #[.int .i64 1, .int .i64 i, .string (st s), .slice sa cl.length sc, .slice pa cp.length pc] 28)
  have hbx := new_at w #[.int .i64 1, .int .i64 i, .string (st s), .slice sa cl.length sc, .slice pa cp.length pc] 28
  obtain ⟨w1, hw1⟩ : ∃ w1, w1 = w.alloc (.cells #[.int .i64 1, .int .i64 i, .string (st s), .slice sa cl.length sc, .slice pa cp.length pc] 28) := ⟨_, rfl⟩
  rw [← hw1] at hb0 hbx
  have hsp := spare_d (k := 1) (i := i) (s := s) (sa := sa) (pa := pa) (nl := cl.length) (np := cp.length) (sc := sc) (pc := pc) (w := w1)
  rw [hsp0] at hsp
  replace hb0 := hide1 hb0
  replace hbx := hide1 hbx
  have d0 : (i == 0) = false := by simpa using i0
  have d1 : (i == 1) = false := by simpa using i1
  go_enter Tryz.func24, Tryz.ntmps24
  go_wp2_with fail
  rw [← hw1]
  refine hsp.mono ?_
  rintro e w2 ⟨rfl, b2⟩
  have hB := hide1 (hb0.out.trans (b2.mono hb0.out.size))
  have hbx2 := (b2.block _ (Array.getElem?_eq_some_iff.1 hbx.out).1).trans hbx.out
  have c0 : w2.cell? ⟨w.heap.size, 0, none⟩ = some (.int .i64 (1)) := by simp only [World.cell?, hbx2]; rfl
  have c1 : w2.cell? ⟨w.heap.size, 1, none⟩ = some (.int .i64 i) := by simp only [World.cell?, hbx2]; rfl
  have c2 : w2.cell? ⟨w.heap.size, 2, none⟩ = some (.string (st s)) := by simp only [World.cell?, hbx2]; rfl
  have c3 : w2.cell? ⟨w.heap.size, 3, none⟩ = some (.slice sa cl.length sc) := by simp only [World.cell?, hbx2]; rfl
  have c4 : w2.cell? ⟨w.heap.size, 4, none⟩ = some (.slice pa cp.length pc) := by simp only [World.cell?, hbx2]; rfl
  clear hsp b2 hw1 hb0 hbx
  go_wp2
  go_ret
  exact ⟨rfl, hB.out⟩
set_option maxHeartbeats 4000000 in
set_option maxRecDepth 100000 in
theorem snd_2 {i : Int} {s : List UInt8} {sa pa : Option Addr} {cl cp : List (List Value)} {sc pc : Nat} {w : World} {D : Int} (hsp0 : spB 2 i s cl.length cp.length = false) : Calls Tryz.prog 24 #[.agg #[.int .i64 2, .int .i64 i, .string (st s), .slice sa cl.length sc, .slice pa cp.length pc], .int .i64 D] w fun e w' => e = .returned (.bool (inR i)) ∧ Below w.heap.size w w' := by
  have hb0 := below_al (w := w) (.cells #[.int .i64 2, .int .i64 i, .string (st s), .slice sa cl.length sc, .slice pa cp.length pc] 28)
  have hbx := new_at w #[.int .i64 2, .int .i64 i, .string (st s), .slice sa cl.length sc, .slice pa cp.length pc] 28
  obtain ⟨w1, hw1⟩ : ∃ w1, w1 = w.alloc (.cells #[.int .i64 2, .int .i64 i, .string (st s), .slice sa cl.length sc, .slice pa cp.length pc] 28) := ⟨_, rfl⟩
  rw [← hw1] at hb0 hbx
  have hsp := spare_d (k := 2) (i := i) (s := s) (sa := sa) (pa := pa) (nl := cl.length) (np := cp.length) (sc := sc) (pc := pc) (w := w1)
  rw [hsp0] at hsp
  replace hb0 := hide1 hb0
  replace hbx := hide1 hbx
  obtain ⟨B, hBe⟩ : ∃ B, Hid (B = inR i) := ⟨_, hide1 rfl⟩
  rw [← hBe.out]
  go_enter Tryz.func24, Tryz.ntmps24
  go_wp2_with fail
  rw [← hw1]
  refine hsp.mono ?_
  rintro e w2 ⟨rfl, b2⟩
  have hB := hide1 (hb0.out.trans (b2.mono hb0.out.size))
  have hbx2 := (b2.block _ (Array.getElem?_eq_some_iff.1 hbx.out).1).trans hbx.out
  have c0 : w2.cell? ⟨w.heap.size, 0, none⟩ = some (.int .i64 (2)) := by simp only [World.cell?, hbx2]; rfl
  have c1 : w2.cell? ⟨w.heap.size, 1, none⟩ = some (.int .i64 i) := by simp only [World.cell?, hbx2]; rfl
  have c2 : w2.cell? ⟨w.heap.size, 2, none⟩ = some (.string (st s)) := by simp only [World.cell?, hbx2]; rfl
  have c3 : w2.cell? ⟨w.heap.size, 3, none⟩ = some (.slice sa cl.length sc) := by simp only [World.cell?, hbx2]; rfl
  have c4 : w2.cell? ⟨w.heap.size, 4, none⟩ = some (.slice pa cp.length pc) := by simp only [World.cell?, hbx2]; rfl
  have hcc := rng_d (n := i) (w := w2)
  rw [← hBe.out] at hcc
  clear hsp b2 hw1 hb0 hbx
  go_wp2_with fail
  refine hcc.mono ?_
  rintro e w3 ⟨rfl, rfl⟩
  clear hcc
  go_wp2
  go_ret
  exact ⟨rfl, hB.out⟩
set_option maxHeartbeats 4000000 in
set_option maxRecDepth 100000 in
theorem snd_3 {i : Int} {s : List UInt8} {sa pa : Option Addr} {cl cp : List (List Value)} {sc pc : Nat} {w : World} {D : Int} (hsp0 : spB 3 i s cl.length cp.length = false) (hsz : s.length ≤ 9223372036854775807) (hT : Ev w) (h8 : 8 ≤ w.heap.size) : Calls Tryz.prog 24 #[.agg #[.int .i64 3, .int .i64 i, .string (st s), .slice sa cl.length sc, .slice pa cp.length pc], .int .i64 D] w fun e w' => e = .returned (.bool (Lib.validD s)) ∧ Below w.heap.size w w' := by
  have hb0 := below_al (w := w) (.cells #[.int .i64 3, .int .i64 i, .string (st s), .slice sa cl.length sc, .slice pa cp.length pc] 28)
  have hbx := new_at w #[.int .i64 3, .int .i64 i, .string (st s), .slice sa cl.length sc, .slice pa cp.length pc] 28
  obtain ⟨w1, hw1⟩ : ∃ w1, w1 = w.alloc (.cells #[.int .i64 3, .int .i64 i, .string (st s), .slice sa cl.length sc, .slice pa cp.length pc] 28) := ⟨_, rfl⟩
  rw [← hw1] at hb0 hbx
  have hsp := spare_d (k := 3) (i := i) (s := s) (sa := sa) (pa := pa) (nl := cl.length) (np := cp.length) (sc := sc) (pc := pc) (w := w1)
  rw [hsp0] at hsp
  replace hb0 := hide1 hb0
  replace hbx := hide1 hbx
  obtain ⟨B, hBe⟩ : ∃ B, Hid (B = Lib.validD s) := ⟨_, hide1 rfl⟩
  rw [← hBe.out]
  go_enter Tryz.func24, Tryz.ntmps24
  go_wp2_with fail
  rw [← hw1]
  refine hsp.mono ?_
  rintro e w2 ⟨rfl, b2⟩
  have hB := hide1 (hb0.out.trans (b2.mono hb0.out.size))
  have hbx2 := (b2.block _ (Array.getElem?_eq_some_iff.1 hbx.out).1).trans hbx.out
  have c0 : w2.cell? ⟨w.heap.size, 0, none⟩ = some (.int .i64 (3)) := by simp only [World.cell?, hbx2]; rfl
  have c1 : w2.cell? ⟨w.heap.size, 1, none⟩ = some (.int .i64 i) := by simp only [World.cell?, hbx2]; rfl
  have c2 : w2.cell? ⟨w.heap.size, 2, none⟩ = some (.string (st s)) := by simp only [World.cell?, hbx2]; rfl
  have c3 : w2.cell? ⟨w.heap.size, 3, none⟩ = some (.slice sa cl.length sc) := by simp only [World.cell?, hbx2]; rfl
  have c4 : w2.cell? ⟨w.heap.size, 4, none⟩ = some (.slice pa cp.length pc) := by simp only [World.cell?, hbx2]; rfl
  have hcc := utf8_ValidString (st s) w2 (by rw [st_size]; exact hsz) (hT.below hB.out (by omega)).tb
  rw [st_data, ← hBe.out] at hcc
  clear hsp b2 hw1 hb0 hbx
  go_wp2_with fail
  refine hcc.mono ?_
  rintro e w3 ⟨rfl, b3⟩
  have hB3 := hide1 (hB.out.trans (b3.mono hB.out.size))
  clear hcc b3 hB
  go_wp2
  go_ret
  exact ⟨rfl, hB3.out⟩
set_option maxHeartbeats 4000000 in
set_option maxRecDepth 100000 in
theorem snd_4z {i : Int} {s : List UInt8} {sa pa : Option Addr} {cl cp : List (List Value)} {sc pc : Nat} {w : World} {D : Int} (hsp0 : spB 4 i s cl.length cp.length = false) (hD : D = 8) : Calls Tryz.prog 24 #[.agg #[.int .i64 4, .int .i64 i, .string (st s), .slice sa cl.length sc, .slice pa cp.length pc], .int .i64 D] w fun e w' => e = .returned (.bool false) ∧ Below w.heap.size w w' := by
  have hb0 := below_al (w := w) (.cells #[.int .i64 4, .int .i64 i, .string (st s), .slice sa cl.length sc, .slice pa cp.length pc] 28)
  have hbx := new_at w #[.int .i64 4, .int .i64 i, .string (st s), .slice sa cl.length sc, .slice pa cp.length pc] 28
  obtain ⟨w1, hw1⟩ : ∃ w1, w1 = w.alloc (.cells #[.int .i64 4, .int .i64 i, .string (st s), .slice sa cl.length sc, .slice pa cp.length pc] 28) := ⟨_, rfl⟩
  rw [← hw1] at hb0 hbx
  have hsp := spare_d (k := 4) (i := i) (s := s) (sa := sa) (pa := pa) (nl := cl.length) (np := cp.length) (sc := sc) (pc := pc) (w := w1)
  rw [hsp0] at hsp
  replace hb0 := hide1 hb0
  replace hbx := hide1 hbx
  subst hD
  go_enter Tryz.func24, Tryz.ntmps24
  go_wp2_with fail
  rw [← hw1]
  refine hsp.mono ?_
  rintro e w2 ⟨rfl, b2⟩
  have hB := hide1 (hb0.out.trans (b2.mono hb0.out.size))
  have hbx2 := (b2.block _ (Array.getElem?_eq_some_iff.1 hbx.out).1).trans hbx.out
  have c0 : w2.cell? ⟨w.heap.size, 0, none⟩ = some (.int .i64 (4)) := by simp only [World.cell?, hbx2]; rfl
  have c1 : w2.cell? ⟨w.heap.size, 1, none⟩ = some (.int .i64 i) := by simp only [World.cell?, hbx2]; rfl
  have c2 : w2.cell? ⟨w.heap.size, 2, none⟩ = some (.string (st s)) := by simp only [World.cell?, hbx2]; rfl
  have c3 : w2.cell? ⟨w.heap.size, 3, none⟩ = some (.slice sa cl.length sc) := by simp only [World.cell?, hbx2]; rfl
  have c4 : w2.cell? ⟨w.heap.size, 4, none⟩ = some (.slice pa cp.length pc) := by simp only [World.cell?, hbx2]; rfl
  clear hsp b2 hw1 hb0 hbx
  go_wp2
  go_ret
  exact ⟨rfl, hB.out⟩
set_option maxHeartbeats 4000000 in
set_option maxRecDepth 100000 in
theorem snd_4 {i : Int} {B : Bool} {s : List UInt8} {sa pa : Option Addr} {cl cp : List (List Value)} {sc pc : Nat} {w : World} {D : Int} (hsp0 : spB 4 i s cl.length cp.length = false) (hD : D < 8) (hD0 : 0 ≤ D) (hc : ∀ w2, Below w.heap.size w w2 → Calls Tryz.prog 41 #[.slice sa cl.length sc, .int .i64 (D + 1)] w2 fun e w3 => e = .returned (.bool B) ∧ Below w2.heap.size w2 w3) : Calls Tryz.prog 24 #[.agg #[.int .i64 4, .int .i64 i, .string (st s), .slice sa cl.length sc, .slice pa cp.length pc], .int .i64 D] w fun e w' => e = .returned (.bool B) ∧ Below w.heap.size w w' := by
  have hb0 := below_al (w := w) (.cells #[.int .i64 4, .int .i64 i, .string (st s), .slice sa cl.length sc, .slice pa cp.length pc] 28)
  have hbx := new_at w #[.int .i64 4, .int .i64 i, .string (st s), .slice sa cl.length sc, .slice pa cp.length pc] 28
  obtain ⟨w1, hw1⟩ : ∃ w1, w1 = w.alloc (.cells #[.int .i64 4, .int .i64 i, .string (st s), .slice sa cl.length sc, .slice pa cp.length pc] 28) := ⟨_, rfl⟩
  rw [← hw1] at hb0 hbx
  have hsp := spare_d (k := 4) (i := i) (s := s) (sa := sa) (pa := pa) (nl := cl.length) (np := cp.length) (sc := sc) (pc := pc) (w := w1)
  rw [hsp0] at hsp
  replace hb0 := hide1 hb0
  replace hbx := hide1 hbx
  replace hc := hide1 hc
  go_enter Tryz.func24, Tryz.ntmps24
  go_wp2_with fail
  rw [← hw1]
  refine hsp.mono ?_
  rintro e w2 ⟨rfl, b2⟩
  have hB := hide1 (hb0.out.trans (b2.mono hb0.out.size))
  have hbx2 := (b2.block _ (Array.getElem?_eq_some_iff.1 hbx.out).1).trans hbx.out
  have c0 : w2.cell? ⟨w.heap.size, 0, none⟩ = some (.int .i64 (4)) := by simp only [World.cell?, hbx2]; rfl
  have c1 : w2.cell? ⟨w.heap.size, 1, none⟩ = some (.int .i64 i) := by simp only [World.cell?, hbx2]; rfl
  have c2 : w2.cell? ⟨w.heap.size, 2, none⟩ = some (.string (st s)) := by simp only [World.cell?, hbx2]; rfl
  have c3 : w2.cell? ⟨w.heap.size, 3, none⟩ = some (.slice sa cl.length sc) := by simp only [World.cell?, hbx2]; rfl
  have c4 : w2.cell? ⟨w.heap.size, 4, none⟩ = some (.slice pa cp.length pc) := by simp only [World.cell?, hbx2]; rfl
  have hcc := hc.out w2 hB.out
  clear hsp b2 hw1 hb0 hbx
  go_wp2_with fail
  refine hcc.mono ?_
  rintro e w3 ⟨rfl, b3⟩
  have hB3 := hide1 (hB.out.trans (b3.mono hB.out.size))
  clear hcc b3 hB
  go_wp2
  go_ret
  exact ⟨rfl, hB3.out⟩
set_option maxHeartbeats 4000000 in
set_option maxRecDepth 100000 in
theorem snd_5z {i : Int} {s : List UInt8} {sa pa : Option Addr} {cl cp : List (List Value)} {sc pc : Nat} {w : World} {D : Int} (hsp0 : spB 5 i s cl.length cp.length = false) (hD : D = 8) : Calls Tryz.prog 24 #[.agg #[.int .i64 5, .int .i64 i, .string (st s), .slice sa cl.length sc, .slice pa cp.length pc], .int .i64 D] w fun e w' => e = .returned (.bool false) ∧ Below w.heap.size w w' := by
  have hb0 := below_al (w := w) (.cells #[.int .i64 5, .int .i64 i, .string (st s), .slice sa cl.length sc, .slice pa cp.length pc] 28)
  have hbx := new_at w #[.int .i64 5, .int .i64 i, .string (st s), .slice sa cl.length sc, .slice pa cp.length pc] 28
  obtain ⟨w1, hw1⟩ : ∃ w1, w1 = w.alloc (.cells #[.int .i64 5, .int .i64 i, .string (st s), .slice sa cl.length sc, .slice pa cp.length pc] 28) := ⟨_, rfl⟩
  rw [← hw1] at hb0 hbx
  have hsp := spare_d (k := 5) (i := i) (s := s) (sa := sa) (pa := pa) (nl := cl.length) (np := cp.length) (sc := sc) (pc := pc) (w := w1)
  rw [hsp0] at hsp
  replace hb0 := hide1 hb0
  replace hbx := hide1 hbx
  subst hD
  go_enter Tryz.func24, Tryz.ntmps24
  go_wp2_with fail
  rw [← hw1]
  refine hsp.mono ?_
  rintro e w2 ⟨rfl, b2⟩
  have hB := hide1 (hb0.out.trans (b2.mono hb0.out.size))
  have hbx2 := (b2.block _ (Array.getElem?_eq_some_iff.1 hbx.out).1).trans hbx.out
  have c0 : w2.cell? ⟨w.heap.size, 0, none⟩ = some (.int .i64 (5)) := by simp only [World.cell?, hbx2]; rfl
  have c1 : w2.cell? ⟨w.heap.size, 1, none⟩ = some (.int .i64 i) := by simp only [World.cell?, hbx2]; rfl
  have c2 : w2.cell? ⟨w.heap.size, 2, none⟩ = some (.string (st s)) := by simp only [World.cell?, hbx2]; rfl
  have c3 : w2.cell? ⟨w.heap.size, 3, none⟩ = some (.slice sa cl.length sc) := by simp only [World.cell?, hbx2]; rfl
  have c4 : w2.cell? ⟨w.heap.size, 4, none⟩ = some (.slice pa cp.length pc) := by simp only [World.cell?, hbx2]; rfl
  clear hsp b2 hw1 hb0 hbx
  go_wp2
  go_ret
  exact ⟨rfl, hB.out⟩
set_option maxHeartbeats 4000000 in
set_option maxRecDepth 100000 in
theorem snd_5 {i : Int} {B : Bool} {s : List UInt8} {sa pa : Option Addr} {cl cp : List (List Value)} {sc pc : Nat} {w : World} {D : Int} (hsp0 : spB 5 i s cl.length cp.length = false) (hD : D < 8) (hD0 : 0 ≤ D) (hc : ∀ w2, Below w.heap.size w w2 → Calls Tryz.prog 42 #[.agg #[.int .i64 5, .int .i64 i, .string (st s), .slice sa cl.length sc, .slice pa cp.length pc], .int .i64 (D + 1)] w2 fun e w3 => e = .returned (.bool B) ∧ Below w2.heap.size w2 w3) : Calls Tryz.prog 24 #[.agg #[.int .i64 5, .int .i64 i, .string (st s), .slice sa cl.length sc, .slice pa cp.length pc], .int .i64 D] w fun e w' => e = .returned (.bool B) ∧ Below w.heap.size w w' := by
  have hb0 := below_al (w := w) (.cells #[.int .i64 5, .int .i64 i, .string (st s), .slice sa cl.length sc, .slice pa cp.length pc] 28)
  have hbx := new_at w #[.int .i64 5, .int .i64 i, .string (st s), .slice sa cl.length sc, .slice pa cp.length pc] 28
  obtain ⟨w1, hw1⟩ : ∃ w1, w1 = w.alloc (.cells #[.int .i64 5, .int .i64 i, .string (st s), .slice sa cl.length sc, .slice pa cp.length pc] 28) := ⟨_, rfl⟩
  rw [← hw1] at hb0 hbx
  have hsp := spare_d (k := 5) (i := i) (s := s) (sa := sa) (pa := pa) (nl := cl.length) (np := cp.length) (sc := sc) (pc := pc) (w := w1)
  rw [hsp0] at hsp
  replace hb0 := hide1 hb0
  replace hbx := hide1 hbx
  replace hc := hide1 hc
  go_enter Tryz.func24, Tryz.ntmps24
  go_wp2_with fail
  rw [← hw1]
  refine hsp.mono ?_
  rintro e w2 ⟨rfl, b2⟩
  have hB := hide1 (hb0.out.trans (b2.mono hb0.out.size))
  have hbx2 := (b2.block _ (Array.getElem?_eq_some_iff.1 hbx.out).1).trans hbx.out
  have c0 : w2.cell? ⟨w.heap.size, 0, none⟩ = some (.int .i64 (5)) := by simp only [World.cell?, hbx2]; rfl
  have c1 : w2.cell? ⟨w.heap.size, 1, none⟩ = some (.int .i64 i) := by simp only [World.cell?, hbx2]; rfl
  have c2 : w2.cell? ⟨w.heap.size, 2, none⟩ = some (.string (st s)) := by simp only [World.cell?, hbx2]; rfl
  have c3 : w2.cell? ⟨w.heap.size, 3, none⟩ = some (.slice sa cl.length sc) := by simp only [World.cell?, hbx2]; rfl
  have c4 : w2.cell? ⟨w.heap.size, 4, none⟩ = some (.slice pa cp.length pc) := by simp only [World.cell?, hbx2]; rfl
  have hcc := hc.out w2 hB.out
  clear hsp b2 hw1 hb0 hbx
  go_wp2_with fail
  refine hcc.mono ?_
  rintro e w3 ⟨rfl, b3⟩
  have hB3 := hide1 (hB.out.trans (b3.mono hB.out.size))
  clear hcc b3 hB
  go_wp2
  go_ret
  exact ⟨rfl, hB3.out⟩
set_option maxHeartbeats 4000000 in
set_option maxRecDepth 100000 in
theorem snd_o {k i : Int} {s : List UInt8} {sa pa : Option Addr} {cl cp : List (List Value)} {sc pc : Nat} {w : World} {D : Int} (hsp0 : spB k i s cl.length cp.length = false) (k0 : k ≠ 0) (k1 : k ≠ 1) (k2 : k ≠ 2) (k3 : k ≠ 3) (k4 : k ≠ 4) (k5 : k ≠ 5) : Calls Tryz.prog 24 #[.agg #[.int .i64 k, .int .i64 i, .string (st s), .slice sa cl.length sc, .slice pa cp.length pc], .int .i64 D] w fun e w' => e = .returned (.bool false) ∧ Below w.heap.size w w' := by
  have hb0 := below_al (w := w) (.cells #[.int .i64 k, .int .i64 i, .string (st s), .slice sa cl.length sc, .slice pa cp.length pc] 28)
  have hbx := new_at w #[.int .i64 k, .int .i64 i, .string (st s), .slice sa cl.length sc, .slice pa cp.length pc] 28
  obtain ⟨w1, hw1⟩ : ∃ w1, w1 = w.alloc (.cells #[.int .i64 k, .int .i64 i, .string (st s), .slice sa cl.length sc, .slice pa cp.length pc] 28) := ⟨_, rfl⟩
  rw [← hw1] at hb0 hbx
  have hsp := spare_d (k := k) (i := i) (s := s) (sa := sa) (pa := pa) (nl := cl.length) (np := cp.length) (sc := sc) (pc := pc) (w := w1)
  rw [hsp0] at hsp
  replace hb0 := hide1 hb0
  replace hbx := hide1 hbx
  have d0 : (k == 0) = false := by simpa using k0
  have d1 : (k == 1) = false := by simpa using k1
  have d2 : (k == 2) = false := by simpa using k2
  have d3 : (k == 3) = false := by simpa using k3
  have d4 : (k == 4) = false := by simpa using k4
  have d5 : (k == 5) = false := by simpa using k5
  go_enter Tryz.func24, Tryz.ntmps24
  go_wp2_with fail
  rw [← hw1]
  refine hsp.mono ?_
  rintro e w2 ⟨rfl, b2⟩
  have hB := hide1 (hb0.out.trans (b2.mono hb0.out.size))
  have hbx2 := (b2.block _ (Array.getElem?_eq_some_iff.1 hbx.out).1).trans hbx.out
  have c0 : w2.cell? ⟨w.heap.size, 0, none⟩ = some (.int .i64 k) := by simp only [World.cell?, hbx2]; rfl
  have c1 : w2.cell? ⟨w.heap.size, 1, none⟩ = some (.int .i64 i) := by simp only [World.cell?, hbx2]; rfl
  have c2 : w2.cell? ⟨w.heap.size, 2, none⟩ = some (.string (st s)) := by simp only [World.cell?, hbx2]; rfl
  have c3 : w2.cell? ⟨w.heap.size, 3, none⟩ = some (.slice sa cl.length sc) := by simp only [World.cell?, hbx2]; rfl
  have c4 : w2.cell? ⟨w.heap.size, 4, none⟩ = some (.slice pa cp.length pc) := by simp only [World.cell?, hbx2]; rfl
  clear hsp b2 hw1 hb0 hbx
  go_wp2
  go_ret
  exact ⟨rfl, hB.out⟩
theorem sound_s {n : Nat} (hn : n ≤ 8) (ih : ∀ m, n = m + 1 → Sok m) : Sok n := by
  intro F w t c h hh hs hv hT h8
  cases h with
  | zero => exact hh.elim
  | succ h =>
  cases hv with
  | @mk k i s l p sl sp cl cp r1 r2 e1 e2 hl hp1 hp2 =>
    obtain ⟨b1, b2, hh1, hh2⟩ := hh
    obtain ⟨z0, z1, z2⟩ := hs
    obtain ⟨sa, sc, rfl⟩ := r1.slc
    obtain ⟨pa, pc, rfl⟩ := r2.slc
    unfold gd
    rw [← e1, ← e2]
    cases hsp : spB k i s cl.length cp.length with
    | true => exact snd_sp hsp
    | false =>
      simp only [Bool.not_false, Bool.true_and]
      by_cases k0 : k = 0
      · subst k0
        rw [if_pos rfl]
        exact snd_0 hsp
      rw [if_neg k0]
      by_cases k1 : k = 1
      · subst k1
        rw [if_pos rfl]
        by_cases i0 : i = 0
        · subst i0
          exact snd_10 hsp
        · by_cases i1 : i = 1
          · subst i1
            exact snd_11 hsp
          · rw [decide_eq_false (by omega)]
            exact snd_1o hsp i0 i1
      rw [if_neg k1]
      by_cases k2 : k = 2
      · subst k2
        rw [if_pos rfl]
        exact snd_2 hsp
      rw [if_neg k2]
      by_cases k3 : k = 3
      · subst k3
        rw [if_pos rfl]
        exact snd_3 hsp z0 hT h8
      rw [if_neg k3]
      by_cases k4 : k = 4
      · subst k4
        rw [if_pos rfl]
        cases n with
        | zero => exact snd_4z hsp rfl
        | succ n =>
          refine snd_4 hsp (by omega) (by omega) fun w2 hb => ?_
          rw [show ((8 - (n + 1) : Nat) : Int) + 1 = ((8 - n : Nat) : Int) by omega]
          exact sndL_d (ih n rfl) (r1.frame (w' := w2) (G := F) (fun j _ hj => hb.block j hj) (fun _ h _ => h)) e1 (by omega) hh1 z1 (fun j t c h1 h2 => (hl j t c h1 h2).frame (fun j _ hj => hb.block j hj) (fun _ h _ => h)) (hT.below hb (by omega)) (by have := hb.size; omega)
      rw [if_neg k4]
      by_cases k5 : k = 5
      · subst k5
        rw [if_pos rfl]
        cases n with
        | zero => exact snd_5z hsp rfl
        | succ n =>
          refine snd_5 hsp (by omega) (by omega) fun w2 hb => ?_
          rw [show ((8 - (n + 1) : Nat) : Int) + 1 = ((8 - n : Nat) : Int) by omega]
          exact (callsIn_wide (n := 5)).1 (sndP_in (ih n rfl) (r2.frame (w' := w2) (G := F) (fun j _ hj => hb.block j hj) (fun _ h _ => h)) e2 (by omega) hh2 z2 (fun j q c h1 h2 => ⟨hp1 j q c h1 h2, (hp2 j q c h1 h2).frame (fun j _ hj => hb.block j hj) (fun _ h _ => h)⟩) (hT.below hb (by omega)) (by have := hb.size; omega))
      rw [if_neg k5]
      exact snd_o hsp k0 k1 k2 k3 k4 k5
theorem sound_d : ∀ n, n ≤ 8 → Sok n
  | 0, h => sound_s h fun m e => by cases e
  | n + 1, h => sound_s h fun m e => by cases e; exact sound_d n (by omega)
theorem check_d {F : Nat → Prop} {w : World} {t : T} {c : List Value} {h : Nat} (hh : hgt h t) (hs : sbd h t) (hv : VA F w t c) (hT : Ev w) (h8 : 8 ≤ w.heap.size) : Calls Tryz.prog 13 #[.agg c.toArray] w fun e w' => e = .returned (if gd 8 t then .nilIface else .iface 44 (.int .i64 1)) ∧ Below w.heap.size w w' := by
  have hc5 := hv.len
  obtain ⟨y0, y1, y2, y3, y4, rfl⟩ := five_l hc5
  have hb0 := below_al (w := w) (.cells #[y0, y1, y2, y3, y4] 28)
  have hc := sound_d 8 (by omega) (c := [y0, y1, y2, y3, y4]) hh hs (hv.frame (fun j _ hj => hb0.block j hj) (fun _ h _ => h)) (hT.below hb0 (by omega)) (by have := hb0.size; omega)
  replace hc : Calls Tryz.prog 24 #[.agg #[y0, y1, y2, y3, y4], .int .i64 0] (w.alloc (.cells #[y0, y1, y2, y3, y4] 28)) _ := hc
  replace hb0 := hide1 hb0
  generalize gd 8 t = B at *
  clear hv hT hc5 hh hs
  show Calls Tryz.prog 13 #[.agg #[y0, y1, y2, y3, y4]] w _
  go_enter Tryz.func13, Tryz.ntmps13
  go_wp2_with fail
  refine hc.mono ?_
  rintro e w1 ⟨rfl, b1⟩
  replace b1 := hide1 (hb0.out.trans (b1.mono hb0.out.size))
  clear hc hb0
  cases B with
  | true =>
    go_wp2
    go_ret
    exact ⟨rfl, b1.out⟩
  | false =>
    go_wp2
    go_ret
    exact ⟨rfl, b1.out⟩
end Go.Proofs.YtkkgcbaofdejjaaGreatDoor

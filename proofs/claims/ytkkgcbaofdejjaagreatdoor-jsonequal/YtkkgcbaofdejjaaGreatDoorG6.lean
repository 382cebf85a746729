/- KA, KR1: laid together. -/
import Derived.Lib.MapLaws
import Derived.Test.YtkkgcbaofdejjaaGreatDoorG2
import Derived.Test.YtkkgcbaofdejjaaGreatDoorG4
namespace Go.Proofs.YtkkgcbaofdejjaaGreatDoor
open Go.RowKit

/-- It ends with a sign that is no blank. -/
def En (q : List UInt8) : Prop := ∃ p c, q = p ++ [c] ∧ bk.contains c = false
theorem En.app {q : List UInt8} (a : List UInt8) (h : En q) : En (a ++ q) := by
  obtain ⟨p, c, rfl, hc⟩ := h
  exact ⟨a ++ p, c, by simp, hc⟩
theorem En.one {c : UInt8} (h : bk.contains c = false) : En [c] := ⟨[], c, rfl, h⟩
theorem En.ne {q : List UInt8} (h : En q) : q ≠ [] := by
  obtain ⟨p, c, rfl, _⟩ := h; simp
/-- No figure stands first. -/
def nd (l : List UInt8) : Prop := ∀ b m, l = b :: m → dg b = false
theorem bk_dg {b : UInt8} (h : bk.contains b = true) : dg b = false := by
  simp [bk] at h
  rcases h with rfl | rfl | rfl | rfl <;> decide
theorem nd_pad {p m : List UInt8} {e : UInt8} (hp : ∀ c ∈ p, bk.contains c = true) (he : dg e = false) : nd (p ++ e :: m) := by
  intro b n h
  cases p with
  | nil => cases h; exact he
  | cons c p => cases h; exact bk_dg (hp b (by simp))
theorem nd_bk {p : List UInt8} (hp : ∀ c ∈ p, bk.contains c = true) : nd p := by
  intro b n h
  subst h
  exact bk_dg (hp b (by simp))
theorem sk_all {p : List UInt8} (m : List UInt8) (h : ∀ c ∈ p, bk.contains c = true) : sk (p ++ m) = sk m := by
  induction p with
  | nil => rfl
  | cons c p ih =>
    have h1 := h c (by simp)
    unfold sk at ih ⊢
    rw [List.cons_append, List.dropWhile_cons, if_pos h1]
    exact ih fun c hc => h c (by simp [hc])
theorem sk_non {b : UInt8} (m : List UInt8) (h : bk.contains b = false) : sk (b :: m) = b :: m := by
  unfold sk; rw [List.dropWhile_cons, if_neg (by rw [h]; decide)]
theorem sk_spec (l : List UInt8) : ∃ p, (∀ c ∈ p, bk.contains c = true) ∧ l = p ++ sk l := by
  refine ⟨l.takeWhile (bk.contains ·), fun c hc => ?_, (List.takeWhile_append_dropWhile).symm⟩
  exact List.all_takeWhile (p := (bk.contains ·)) (l := l) |> fun h => List.all_eq_true.1 h c hc
theorem sk_head {l m : List UInt8} {b : UInt8} (h : sk l = b :: m) : bk.contains b = false := by
  have h2 := sk_sk l
  rw [h] at h2
  cases hb : bk.contains b with
  | false => rfl
  | true =>
    unfold sk at h2
    rw [List.dropWhile_cons, if_pos hb] at h2
    have := congrArg List.length h2
    have := drop_while_le (bk.contains ·) m
    simp at *
    omega
theorem hp1 {b : UInt8} {l : List UInt8} (h : hp [b] l = true) : ∃ m, l = b :: m := by
  cases l with
  | nil => simp [hp] at h
  | cons c m => simp [hp] at h; exact ⟨m, by rw [h]⟩
theorem hp_c (b : UInt8) (m : List UInt8) : hp [b] (b :: m) = true := by simp [hp]
theorem tk_c (b : UInt8) (m : List UInt8) : tk [b] (b :: m) = m := by simp [tk]
theorem hp_f {b c : UInt8} {m m' : List UInt8} (h : hp [b] (c :: m) = false) : hp [b] (c :: m') = false := by
  simp [hp] at h ⊢; exact h
/-- A word ahead. -/
theorem hpw {p l : List UInt8} (h : hp p l = true) : l = p ++ tk p l := by
  unfold hp at h
  unfold tk
  rw [if_pos h]
  obtain ⟨t, rfl⟩ := List.isPrefixOf_iff_prefix.1 h
  simp
theorem hpw_c (p m : List UInt8) : hp p (p ++ m) = true := List.isPrefixOf_iff_prefix.2 ⟨m, rfl⟩
theorem tkw_c (p m : List UInt8) : tk p (p ++ m) = m := by
  unfold tk
  rw [if_pos (List.isPrefixOf_iff_prefix.2 ⟨m, rfl⟩)]
  simp
theorem f4_sw : ∀ (k c : Nat) (l : List UInt8) (n : Nat), f4 k c l = some n → ∃ q, l = q ++ l.drop k ∧ q.length = k ∧ ∀ r', f4 k c (q ++ r') = some n
  | 0, c, l, n, h => ⟨[], by simp, rfl, fun r' => h⟩
  | k + 1, c, [], n, h => by cases h
  | k + 1, c, b :: l, n, h => by
    unfold f4 at h
    cases hq : fg b.toNat with
    | none => rw [hq] at h; cases h
    | some m =>
      rw [hq] at h
      obtain ⟨q, h1, h2, h3⟩ := f4_sw k _ l n h
      refine ⟨b :: q, ?_, by simp [h2], fun r' => ?_⟩
      · rw [List.drop_succ_cons, List.cons_append, ← h1]
      · rw [List.cons_append]
        unfold f4
        rw [hq]
        exact h3 r'
theorem drop_app {q r : List UInt8} {k : Nat} (h : q.length = k) : (q ++ r).drop k = r := by subst h; simp
theorem cdd_sw {l r : List UInt8} {c : Nat} (h : cdd l = some (c, r)) : ∃ q, l = q ++ r ∧ ∀ r', cdd (q ++ r') = some (c, r') := by
  unfold cdd at h
  split at h
  · cases h
  · rename_i a ha
    obtain ⟨q, h1, h2, h3⟩ := f4_sw 4 0 l a ha
    split at h
    · rename_i hc
      cases h
      refine ⟨q, h1, fun r' => ?_⟩
      unfold cdd
      rw [h3]
      simp only [if_pos hc, drop_app h2]
    · rename_i hc
      split at h
      · cases h
      · rename_i hd
        split at h
        · rename_i hh
          split at h
          · cases h
          · rename_i x hx
            split at h
            · cases h
            · rename_i hw
              simp only [Option.some.injEq, Prod.mk.injEq] at h
              obtain ⟨rfl, rfl⟩ := h
              obtain ⟨q', g1, g2, g3⟩ := f4_sw 4 0 _ x hx
              have e1 := hpw hh
              refine ⟨q ++ ([92, 117] ++ q'), ?_, fun r' => ?_⟩
              · rw [List.append_assoc, List.append_assoc, ← g1, ← e1, ← h1]
              · unfold cdd
                rw [List.append_assoc, h3]
                simp only [if_neg hc, if_neg hd, drop_app h2]
                rw [List.append_assoc, hpw_c, tkw_c, g3]
                simp only [if_true, if_neg hw, drop_app g2]
        · cases h
theorem esc_sw {l r : List UInt8} {c : Nat} (h : esc l = some (c, r)) : ∃ q, l = q ++ r ∧ q ≠ [] ∧ ∀ r', esc (q ++ r') = some (c, r') := by
  cases l with
  | nil => cases h
  | cons b t =>
    have h : escN b.toNat t = some (c, r) := h
    have key : ∃ q, t = q ++ r ∧ ∀ r', escN b.toNat (q ++ r') = some (c, r') := by
      unfold escN at h ⊢
      split at h
      · rename_i h1; cases h; exact ⟨[], rfl, fun r' => by simp [if_pos h1]⟩
      · rename_i h1
        split at h
        · rename_i h2; cases h; exact ⟨[], rfl, fun r' => by simp [if_neg h1, if_pos h2]⟩
        · rename_i h2
          split at h
          · rename_i h3; cases h; exact ⟨[], rfl, fun r' => by simp [if_neg h1, if_neg h2, if_pos h3]⟩
          · rename_i h3
            split at h
            · rename_i h4; cases h; exact ⟨[], rfl, fun r' => by simp [if_neg h1, if_neg h2, if_neg h3, if_pos h4]⟩
            · rename_i h4
              split at h
              · rename_i h5; cases h; exact ⟨[], rfl, fun r' => by simp [if_neg h1, if_neg h2, if_neg h3, if_neg h4, if_pos h5]⟩
              · rename_i h5
                split at h
                · rename_i h6; cases h; exact ⟨[], rfl, fun r' => by simp [if_neg h1, if_neg h2, if_neg h3, if_neg h4, if_neg h5, if_pos h6]⟩
                · rename_i h6
                  split at h
                  · rename_i h7
                    obtain ⟨q, g1, g2⟩ := cdd_sw h
                    exact ⟨q, g1, fun r' => by simp only [if_neg h1, if_neg h2, if_neg h3, if_neg h4, if_neg h5, if_neg h6, if_pos h7]; exact g2 r'⟩
                  · cases h
    obtain ⟨q, rfl, hq⟩ := key
    exact ⟨b :: q, rfl, by simp, fun r' => hq r'⟩
theorem dec_go {b : UInt8} (t : List UInt8) : Lib.decodeGo (st (b :: t)) = Lib.decodeL (b :: t) := by
  unfold Lib.decodeGo
  rw [if_neg (by rw [st_size]; simp)]
  rfl
/-- A sign of UTF-8 ahead: what follows doesn't matter. -/
theorem dec_sw {l : List UInt8} (hne : l ≠ []) (hv : ¬ ((Lib.decodeL l).1 = 65533 ∧ (Lib.decodeL l).2 = 1)) : ∃ q, l = q ++ l.drop (Lib.decodeL l).2 ∧ q ≠ [] ∧ q.length = (Lib.decodeL l).2 ∧ ∀ r', Lib.decodeL (q ++ r') = Lib.decodeL l := by
  have hw1 := Lib.decodeL_width l
  have hw2 := Lib.decodeL_le l hne
  refine ⟨l.take (Lib.decodeL l).2, (List.take_append_drop _ _).symm, ?_, by simp; omega, ?_⟩
  · intro h
    have := congrArg List.length h
    rw [List.length_take, List.length_nil] at this
    omega
  · intro r'
    rw [Lib.decodeL_N] at hv ⊢
    rw [Lib.decodeL_N]
    rcases Lib.decodeN_shape l.length (l.getD 0 0).toNat (l.getD 1 0).toNat (l.getD 2 0).toNat (l.getD 3 0).toNat with ⟨c, e⟩ | ⟨c1, c2, c3, cv, e⟩ | ⟨c1, c2, c3, c4, cv, cs, e⟩ | ⟨c1, c2, c3, c4, c5, cv, cw, e⟩ | e
    · have hl : 0 < l.length := List.length_pos_iff.2 hne
      rw [e]
      simp only
      rw [Lib.takeA l hl]
      unfold Lib.decodeN
      rw [if_pos (by simpa using c)]
      rfl
    · rw [e]
      simp only
      rw [Lib.takeB l c2]
      simp only [List.cons_append, List.nil_append, List.length_cons, List.getD_cons_zero, List.getD_cons_succ]
      unfold Lib.decodeN
      rw [if_neg (by omega), if_pos ⟨c1, by omega, c3⟩, if_pos cv]
    · rw [e]
      simp only
      rw [Lib.takeC l c2]
      simp only [List.cons_append, List.nil_append, List.length_cons, List.getD_cons_zero, List.getD_cons_succ]
      unfold Lib.decodeN
      rw [if_neg (by omega), if_neg (by omega), if_pos ⟨c1, ⟨by omega, c3⟩, by omega, c4⟩, if_pos ⟨cv, by omega⟩]
    · rw [e]
      simp only
      rw [Lib.takeD l c2]
      simp only [List.cons_append, List.nil_append, List.length_cons, List.getD_cons_zero, List.getD_cons_succ]
      unfold Lib.decodeN
      rw [if_neg (by omega), if_neg (by omega), if_neg (by omega), if_pos ⟨c1, ⟨by omega, c3⟩, ⟨by omega, c4⟩, by omega, c5⟩, if_pos ⟨cv, by omega⟩]
    · rw [e] at hv
      exact absurd ⟨rfl, rfl⟩ hv
theorem pln_sw {l r : List UInt8} {c : Nat} (h : pln l = some (c, r)) : ∃ q, l = q ++ r ∧ q ≠ [] ∧ ∀ r', pln (q ++ r') = some (c, r') := by
  cases l with
  | nil => rw [show pln [] = none from rfl] at h; cases h
  | cons b t =>
    unfold pln at h
    rw [dec_go] at h
    split at h
    · cases h
    · rename_i hn
      have hv : ¬ ((Lib.decodeL (b :: t)).1 = 65533 ∧ (Lib.decodeL (b :: t)).2 = 1) := fun e => hn (.inr ⟨e.1, by omega⟩)
      obtain ⟨q, h1, h2, h3, h4⟩ := dec_sw (by simp) hv
      simp only [Option.some.injEq, Prod.mk.injEq] at h
      obtain ⟨hc, hr⟩ := h
      rw [hr] at h1
      refine ⟨q, h1, h2, fun r' => ?_⟩
      cases q with
      | nil => exact absurd rfl h2
      | cons b' q =>
        unfold pln
        rw [List.cons_append, dec_go, ← List.cons_append, h4, if_neg hn, hc]
        rw [← h3]
        simp
theorem ltr_sw {l r : List UInt8} {c : Nat} (h : ltr l = some (c, r)) : ∃ q, l = q ++ r ∧ q ≠ [] ∧ ∀ r', ltr (q ++ r') = some (c, r') := by
  unfold ltr at h
  split at h
  · rename_i hh
    obtain ⟨m, rfl⟩ := hp1 hh
    rw [tk_c] at h
    obtain ⟨q, rfl, h2, h3⟩ := esc_sw h
    refine ⟨92 :: q, rfl, by simp, fun r' => ?_⟩
    unfold ltr
    rw [List.cons_append, hp_c, tk_c]
    exact h3 r'
  · rename_i hh
    obtain ⟨q, rfl, h2, h3⟩ := pln_sw h
    refine ⟨q, rfl, h2, fun r' => ?_⟩
    cases q with
    | nil => exact absurd rfl h2
    | cons b q =>
      unfold ltr
      rw [List.cons_append, hp_f (m := q ++ r) (by simpa using hh)]
      exact h3 r'
theorem ql_sw : ∀ (n : Nat) {out l s r : List UInt8}, ql n out l = some (s, r) → ∃ q, l = q ++ r ∧ En q ∧ ∀ n' r', q.length ≤ n' → ql n' out (q ++ r') = some (s, r')
  | n, out, l, s, r, h => by
    cases hh : hp [34] l with
    | true =>
      rw [ql_end hh] at h
      obtain ⟨m, rfl⟩ := hp1 hh
      rw [tk_c] at h
      cases h
      exact ⟨[34], rfl, .one (by decide), fun n' r' _ => by rw [List.cons_append, List.nil_append, ql_end (hp_c _ _), tk_c]⟩
    | false =>
      cases hl : ltr l with
      | none => rw [ql_non hh hl] at h; cases h
      | some x =>
        obtain ⟨c, m⟩ := x
        cases n with
        | zero => rw [ql, if_neg (by simp [hh]), hl] at h; cases h
        | succ n =>
          rw [ql_go hh hl] at h
          obtain ⟨q, rfl, h2, h3⟩ := ql_sw n h
          obtain ⟨q1, rfl, g2, g3⟩ := ltr_sw hl
          refine ⟨q1 ++ q, by simp, h2.app q1, fun n' r' hn => ?_⟩
          cases q1 with
          | nil => exact absurd rfl g2
          | cons b q1 =>
            cases n' with
            | zero => simp at hn
            | succ n' =>
              rw [List.append_assoc]
              rw [ql_go (by rw [List.cons_append] at hh ⊢; exact hp_f hh) (g3 _)]
              exact h3 n' r' (by simp at hn; omega)
theorem qt_sw {l s r : List UInt8} (h : qt l = some (s, r)) : ∃ q, l = q ++ r ∧ En q ∧ ∀ r', qt (q ++ r') = some (s, r') := by
  unfold qt at h
  split at h
  · rename_i hh
    obtain ⟨m, rfl⟩ := hp1 hh
    rw [tk_c] at h
    obtain ⟨q, rfl, h2, h3⟩ := ql_sw _ h
    refine ⟨34 :: q, rfl, h2.app [34], fun r' => ?_⟩
    unfold qt
    rw [List.cons_append, hp_c, tk_c, if_pos rfl]
    exact h3 _ r' (by simp; omega)
  · cases h
theorem qt_head {l s r : List UInt8} (h : qt l = some (s, r)) : ∃ m, l = 34 :: m := by
  unfold qt at h
  split at h
  · rename_i hh; exact hp1 hh
  · cases h
theorem take_dg {ds r : List UInt8} (h : ∀ c ∈ ds, dg c = true) (hr : nd r) : (ds ++ r).takeWhile dg = ds ∧ (ds ++ r).dropWhile dg = r := by
  induction ds with
  | nil =>
    cases r with
    | nil => exact ⟨rfl, rfl⟩
    | cons b m =>
      have := hr b m rfl
      simp [this]
  | cons c ds ih =>
    have h1 := h c (by simp)
    obtain ⟨i1, i2⟩ := ih fun c hc => h c (by simp [hc])
    simp only [List.cons_append, List.takeWhile_cons, List.dropWhile_cons, h1, if_true, i1, i2]
    exact ⟨trivial, trivial⟩
theorem dg_bk {c : UInt8} (h : dg c = true) : bk.contains c = false := by
  cases hb : bk.contains c with
  | false => rfl
  | true => rw [bk_dg hb] at h; cases h
theorem nm_sw {l r : List UInt8} {i : Int} (h : nm l = some (i, r)) : ∃ q, l = q ++ r ∧ En q ∧ ∀ r', nd r' → nm (q ++ r') = some (i, r') := by
  unfold nm at h
  cases hq : nmO (hp [45] l) ((tk [45] l).takeWhile dg) with
  | none => rw [hq] at h; cases h
  | some k =>
    rw [hq] at h
    simp only [Option.map_some, Option.some.injEq, Prod.mk.injEq] at h
    obtain ⟨rfl, rfl⟩ := h
    generalize hds : (tk [45] l).takeWhile dg = ds at hq
    have hall : ∀ c ∈ ds, dg c = true := fun c hc => by
      have := List.all_takeWhile (p := dg) (l := tk [45] l)
      rw [hds] at this
      exact List.all_eq_true.1 this c hc
    have hne : ds ≠ [] := fun e => by subst e; simp [nmO] at hq
    have hsp : tk [45] l = ds ++ (tk [45] l).dropWhile dg := by rw [← hds]; exact (List.takeWhile_append_dropWhile).symm
    generalize (tk [45] l).dropWhile dg = r at hsp
    have hen : En ds := by
      refine ⟨ds.dropLast, ds.getLast hne, (List.dropLast_concat_getLast hne).symm, dg_bk (hall _ (List.getLast_mem hne))⟩
    cases hh : hp [45] l with
    | true =>
      obtain ⟨m, rfl⟩ := hp1 hh
      rw [tk_c] at hsp
      subst hsp
      refine ⟨45 :: ds, rfl, hen.app [45], fun r' hr' => ?_⟩
      unfold nm
      rw [List.cons_append, hp_c, tk_c, (take_dg hall hr').1, (take_dg hall hr').2]
      rw [hh] at hq
      rw [hq]; rfl
    | false =>
      rw [tk_no hh] at hsp
      subst hsp
      refine ⟨ds, rfl, hen, fun r' hr' => ?_⟩
      have hh' : hp [45] (ds ++ r') = false := by
        cases ds with
        | nil => exact absurd rfl hne
        | cons c ds => rw [List.cons_append] at hh ⊢; exact hp_f hh
      unfold nm
      rw [hh', tk_no hh', (take_dg hall hr').1, (take_dg hall hr').2]
      rw [hh] at hq
      rw [hq]; rfl
section
variable {α : Type} {one : List UInt8 → Option (α × List UInt8)} {e : UInt8}
theorem its_sw (ho : ∀ l x r, one l = some (x, r) → ∃ q, l = q ++ r ∧ En q ∧ ∀ r', nd r' → one (q ++ r') = some (x, r')) (he : bk.contains e = false) (hd : dg e = false) : ∀ (n : Nat) {xs ys : List α} {l r : List UInt8}, its one e n xs l = some (ys, r) → ∃ q, l = q ++ r ∧ En q ∧ ∀ n' r', q.length ≤ n' → its one e n' xs (q ++ r') = some (ys, r')
  | n, xs, ys, l, r, h => by
    cases h1 : one l with
    | none => rw [its_non h1] at h; cases h
    | some y =>
      obtain ⟨x, r1⟩ := y
      obtain ⟨q1, rfl, a2, a3⟩ := ho _ _ _ h1
      obtain ⟨p, hp', hr1⟩ := sk_spec r1
      cases hE : hp [e] (sk r1) with
      | true =>
        rw [its_end h1 hE] at h
        obtain ⟨m, hm⟩ := hp1 hE
        rw [hm, tk_c] at h
        rw [hm] at hr1
        cases h
        refine ⟨q1 ++ (p ++ [e]), by rw [hr1]; simp, (En.app p (.one he)).app q1, fun n' r' _ => ?_⟩
        have e1 : q1 ++ (p ++ [e]) ++ r' = q1 ++ (p ++ e :: r') := by simp
        have e2 : sk (p ++ e :: r') = e :: r' := by rw [sk_all _ hp', sk_non _ he]
        rw [e1, its_end (a3 _ (nd_pad hp' hd)) (by rw [e2]; exact hp_c _ _), e2, tk_c]
      | false =>
        cases hc : hp [44] (sk r1) with
        | false => rw [its_bad h1 hE hc] at h; cases h
        | true =>
          obtain ⟨m, hm⟩ := hp1 hc
          cases n with
          | zero => rw [its, h1] at h; simp [hE, hc] at h
          | succ n =>
            rw [its_go h1 hE hc, hm, tk_c] at h
            obtain ⟨q, rfl, b2, b3⟩ := its_sw ho he hd n h
            rw [hm] at hr1
            refine ⟨q1 ++ (p ++ 44 :: q), by rw [hr1]; simp, ((b2.app [44]).app p).app q1, fun n' r' hn => ?_⟩
            have e1 : q1 ++ (p ++ 44 :: q) ++ r' = q1 ++ (p ++ 44 :: (q ++ r')) := by simp
            have e2 : sk (p ++ 44 :: (q ++ r')) = 44 :: (q ++ r') := by rw [sk_all _ hp', sk_non _ (by decide)]
            cases n' with
            | zero => simp at hn
            | succ n' =>
              rw [e1, its_go (a3 _ (nd_pad hp' (by decide))) (by rw [e2]; rw [hm] at hE; exact hp_f hE) (by rw [e2]; exact hp_c _ _), e2, tk_c]
              exact b3 n' r' (by simp at hn; omega)
theorem rw_sw {b : UInt8} (ho : ∀ l x r, one l = some (x, r) → ∃ q, l = q ++ r ∧ En q ∧ ∀ r', nd r' → one (q ++ r') = some (x, r')) (hb : bk.contains b = false) (he : bk.contains e = false) (hd : dg e = false) {ys : List α} {l r : List UInt8} (h : rw' one b e l = some (ys, r)) : ∃ q, l = q ++ r ∧ En q ∧ ∀ r', rw' one b e (q ++ r') = some (ys, r') := by
  unfold rw' at h
  split at h
  · rename_i hh
    obtain ⟨p, hp', hl⟩ := sk_spec l
    obtain ⟨m, hm⟩ := hp1 hh
    rw [hm] at h hl
    rw [tk_c] at h
    obtain ⟨p2, hp2, hm2⟩ := sk_spec m
    split at h
    · rename_i hE
      obtain ⟨m', hm'⟩ := hp1 hE
      rw [hm', tk_c] at h
      rw [hm'] at hm2
      cases h
      refine ⟨p ++ (b :: (p2 ++ [e])), by rw [hl, hm2]; simp, ((En.app p2 (.one he)).app [b]).app p, fun r' => ?_⟩
      have e1 : p ++ (b :: (p2 ++ [e])) ++ r' = p ++ (b :: (p2 ++ e :: r')) := by simp
      have e2 : sk (p ++ (b :: (p2 ++ e :: r'))) = b :: (p2 ++ e :: r') := by rw [sk_all _ hp', sk_non _ hb]
      have e3 : sk (p2 ++ e :: r') = e :: r' := by rw [sk_all _ hp2, sk_non _ he]
      unfold rw'
      rw [e1, e2, hp_c, tk_c, e3, hp_c, tk_c]
      rfl
    · rename_i hE
      obtain ⟨q, hq, h2, h3⟩ := its_sw ho he hd _ h
      rw [hq] at hm2
      have hqs : q ++ r = sk m := hq.symm
      cases q with
      | nil => exact absurd rfl h2.ne
      | cons c q =>
        have hcb : bk.contains c = false := sk_head (l := m) (by rw [← hqs]; rfl)
        refine ⟨p ++ (b :: (p2 ++ (c :: q))), by rw [hl, hm2]; simp, ((h2.app p2).app [b]).app p, fun r' => ?_⟩
        have e1 : p ++ (b :: (p2 ++ (c :: q))) ++ r' = p ++ (b :: (p2 ++ (c :: (q ++ r')))) := by simp
        have e2 : sk (p ++ (b :: (p2 ++ (c :: (q ++ r'))))) = b :: (p2 ++ (c :: (q ++ r'))) := by rw [sk_all _ hp', sk_non _ hb]
        have e3 : sk (p2 ++ (c :: (q ++ r'))) = c :: (q ++ r') := by rw [sk_all _ hp2, sk_non _ hcb]
        unfold rw'
        rw [e1, e2, hp_c, tk_c, e3, if_pos rfl, if_neg]
        · exact h3 _ r' (by simp; omega)
        · rw [← hqs, List.cons_append] at hE
          rw [Bool.not_eq_true] at hE ⊢
          exact hp_f hE
  · cases h
end
theorem pr_sw {one : List UInt8 → Option (T × List UInt8)} (ho : ∀ l x r, one l = some (x, r) → ∃ q, l = q ++ r ∧ En q ∧ ∀ r', nd r' → one (q ++ r') = some (x, r')) {l r : List UInt8} {x : List UInt8 × T} (h : pr one l = some (x, r)) : ∃ q, l = q ++ r ∧ En q ∧ ∀ r', nd r' → pr one (q ++ r') = some (x, r') := by
  unfold pr at h
  split at h
  · cases h
  · rename_i s r1 hq
    obtain ⟨p, hp', hl⟩ := sk_spec l
    obtain ⟨m0, hm0⟩ := qt_head hq
    obtain ⟨q1, hq1, a2, a3⟩ := qt_sw hq
    split at h
    · rename_i hh
      obtain ⟨p2, hp2, hr1⟩ := sk_spec r1
      obtain ⟨m, hm⟩ := hp1 hh
      rw [hm, tk_c] at h
      rw [hm] at hr1
      split at h
      · cases h
      · rename_i v r2 hv
        cases h
        obtain ⟨q2, rfl, b2, b3⟩ := ho _ _ _ hv
        rw [hq1, hr1] at hl
        cases q1 with
        | nil => exact absurd rfl a2.ne
        | cons c q1 =>
          have hcb : bk.contains c = false := sk_head (l := l) (by rw [hq1]; rfl)
          refine ⟨p ++ ((c :: q1) ++ (p2 ++ 58 :: q2)), by rw [hl]; simp, (((b2.app [58]).app p2).app _).app p, fun r' hr' => ?_⟩
          have e1 : p ++ ((c :: q1) ++ (p2 ++ 58 :: q2)) ++ r' = p ++ (c :: (q1 ++ (p2 ++ 58 :: (q2 ++ r')))) := by simp
          have e2 : sk (p ++ (c :: (q1 ++ (p2 ++ 58 :: (q2 ++ r'))))) = (c :: q1) ++ (p2 ++ 58 :: (q2 ++ r')) := by rw [sk_all _ hp', sk_non _ hcb]; rfl
          have e3 : sk (p2 ++ 58 :: (q2 ++ r')) = 58 :: (q2 ++ r') := by rw [sk_all _ hp2, sk_non _ (by decide)]
          unfold pr
          rw [e1, e2, a3]
          simp only [e3, hp_c, tk_c, if_true, b3 _ hr']
    · cases h
def T.kd : T → Int
  | .mk k _ _ _ _ => k
/-- What follows a value doesn't matter. -/
theorem pv_sw : ∀ (n : Nat) (l : List UInt8) (x : T) (r : List UInt8), pv n l = some (x, r) → ∃ q, l = q ++ r ∧ En q ∧ ∀ r', (x.kd = 2 → nd r') → pv n (q ++ r') = some (x, r')
  | n, l, x, r, h => by
    obtain ⟨p, hp', hl⟩ := sk_spec l
    have key : ∀ b m, sk l = b :: m → (∃ q, b :: m = q ++ r ∧ En q ∧ ∀ r', (x.kd = 2 → nd r') → pv n (q ++ r') = some (x, r')) → ∃ q, l = q ++ r ∧ En q ∧ ∀ r', (x.kd = 2 → nd r') → pv n (q ++ r') = some (x, r') := by
      rintro b m hs ⟨q, h1, h2, h3⟩
      refine ⟨p ++ q, by rw [hl, hs, h1]; simp, h2.app p, fun r' hr' => ?_⟩
      have := h3 r' hr'
      unfold pv at this ⊢
      rw [List.append_assoc, sk_all _ hp']
      exact this
    unfold pv at h
    cases hs : sk l with
    | nil => rw [hs] at h; cases h
    | cons b m =>
      rw [hs] at h
      refine key b m hs ?_
      have hbb := sk_head hs
      simp only at h
      have wd : ∀ (w : List UInt8) (c : UInt8) (v : List UInt8), w = v ++ [c] → bk.contains c = false → hp w (b :: m) = true → ∃ q, b :: m = q ++ tk w (b :: m) ∧ En q ∧ q = w := fun w c v hw hc hh => ⟨w, hpw hh, ⟨v, c, hw, hc⟩, rfl⟩
      split at h
      · rename_i hb
        split at h
        · rename_i hh
          cases h
          obtain ⟨q, g1, g2, rfl⟩ := wd [110, 117, 108, 108] 108 [110, 117, 108] rfl (by decide) hh
          refine ⟨_, g1, g2, fun r' _ => ?_⟩
          unfold pv
          rw [show sk ([110, 117, 108, 108] ++ r') = [110, 117, 108, 108] ++ r' from sk_non _ (by decide)]
          have k1 := hpw_c [110, 117, 108, 108] r'
          have k2 := tkw_c [110, 117, 108, 108] r'
          simp only [List.cons_append, List.nil_append] at k1 k2 ⊢
          simp [k1, k2]
        · cases h
      · rename_i hb1
        split at h
        · split at h
          · rename_i hh
            cases h
            obtain ⟨q, g1, g2, rfl⟩ := wd [116, 114, 117, 101] 101 [116, 114, 117] rfl (by decide) hh
            refine ⟨_, g1, g2, fun r' _ => ?_⟩
            unfold pv
            rw [show sk ([116, 114, 117, 101] ++ r') = [116, 114, 117, 101] ++ r' from sk_non _ (by decide)]
            have k1 := hpw_c [116, 114, 117, 101] r'
            have k2 := tkw_c [116, 114, 117, 101] r'
            simp only [List.cons_append, List.nil_append] at k1 k2 ⊢
            simp [k1, k2]
          · cases h
        · rename_i hb2
          split at h
          · split at h
            · rename_i hh
              cases h
              obtain ⟨q, g1, g2, rfl⟩ := wd [102, 97, 108, 115, 101] 101 [102, 97, 108, 115] rfl (by decide) hh
              refine ⟨_, g1, g2, fun r' _ => ?_⟩
              unfold pv
              rw [show sk ([102, 97, 108, 115, 101] ++ r') = [102, 97, 108, 115, 101] ++ r' from sk_non _ (by decide)]
              have k1 := hpw_c [102, 97, 108, 115, 101] r'
              have k2 := tkw_c [102, 97, 108, 115, 101] r'
              simp only [List.cons_append, List.nil_append] at k1 k2 ⊢
              simp [k1, k2]
            · cases h
          · rename_i hb3
            split at h
            · rename_i hb4
              split at h
              · cases h
              · rename_i hq
                cases h
                obtain ⟨q, g1, g2, g3⟩ := qt_sw hq
                refine ⟨q, g1, g2, fun r' _ => ?_⟩
                cases q with
                | nil => exact absurd rfl g2.ne
                | cons c q =>
                  cases g1
                  unfold pv
                  rw [List.cons_append, sk_non _ hbb]
                  simp only [if_neg hb1, if_neg hb2, if_neg hb3, if_pos hb4, ← List.cons_append, g3]
            · rename_i hb4
              split at h
              · rename_i hb5
                cases n with
                | zero => cases h
                | succ n =>
                  simp only at h
                  split at h
                  · cases h
                  · rename_i hq
                    cases h
                    obtain ⟨q, g1, g2, g3⟩ := rw_sw (fun l x r h => by obtain ⟨q, h1, h2, h3⟩ := pv_sw n l x r h; exact ⟨q, h1, h2, fun r' hr' => h3 r' fun _ => hr'⟩) (by decide) (by decide) (by decide) hq
                    refine ⟨q, g1, g2, fun r' _ => ?_⟩
                    cases q with
                    | nil => exact absurd rfl g2.ne
                    | cons c q =>
                      cases g1
                      unfold pv
                      rw [List.cons_append, sk_non _ hbb]
                      simp only [if_neg hb1, if_neg hb2, if_neg hb3, if_neg hb4, if_pos hb5, ← List.cons_append, g3]
              · rename_i hb5
                split at h
                · rename_i hb6
                  cases n with
                  | zero => cases h
                  | succ n =>
                    simp only at h
                    split at h
                    · cases h
                    · rename_i hq
                      split at h
                      · rename_i ho
                        cases h
                        obtain ⟨q, g1, g2, g3⟩ := rw_sw (fun l x r h => pr_sw (fun l x r h => by obtain ⟨q, h1, h2, h3⟩ := pv_sw n l x r h; exact ⟨q, h1, h2, fun r' hr' => h3 r' fun _ => hr'⟩) h) (by decide) (by decide) (by decide) hq
                        refine ⟨q, g1, g2, fun r' _ => ?_⟩
                        cases q with
                        | nil => exact absurd rfl g2.ne
                        | cons c q =>
                          cases g1
                          unfold pv
                          rw [List.cons_append, sk_non _ hbb]
                          simp only [if_neg hb1, if_neg hb2, if_neg hb3, if_neg hb4, if_neg hb5, if_pos hb6, ← List.cons_append, g3, ho, if_true]
                      · cases h
                · rename_i hb6
                  split at h
                  · cases h
                  · rename_i hq
                    cases h
                    obtain ⟨q, g1, g2, g3⟩ := nm_sw hq
                    refine ⟨q, g1, g2, fun r' hr' => ?_⟩
                    cases q with
                    | nil => exact absurd rfl g2.ne
                    | cons c q =>
                      cases g1
                      unfold pv
                      rw [List.cons_append, sk_non _ hbb]
                      simp only [if_neg hb1, if_neg hb2, if_neg hb3, if_neg hb4, if_neg hb5, if_neg hb6, ← List.cons_append, g3 r' (hr' rfl)]

/-- A text, whose blanks at both ends don't matter. -/
theorem pv_ahead (n : Nat) {p : List UInt8} (l : List UInt8) (h : ∀ c ∈ p, bk.contains c = true) : pv n (p ++ l) = pv n l := by
  unfold pv; rw [sk_all _ h]
theorem sk_nil {r : List UInt8} : sk r = [] ↔ ∀ c ∈ r, bk.contains c = true := by
  constructor
  · intro h
    obtain ⟨p, h1, h2⟩ := sk_spec r
    rw [h, List.append_nil] at h2
    rw [h2]; exact h1
  · intro h
    have := sk_all (p := r) [] h
    rw [List.append_nil] at this
    exact this
/-- Is all of it a value's text? -/
def whl (l : List UInt8) : Option T := match pv 8 l with
  | none => none
  | some (t, r) => if (sk r).isEmpty then some t else none
theorem whl_some {l : List UInt8} {t : T} : whl l = some t ↔ ∃ r, pv 8 l = some (t, r) ∧ ∀ c ∈ r, bk.contains c = true := by
  unfold whl
  split
  · rename_i h
    constructor
    · intro h; cases h
    · rintro ⟨r, h1, _⟩; rw [h] at h1; cases h1
  · rename_i t' r h
    constructor
    · intro h1
      split at h1
      · rename_i h2
        cases h1
        exact ⟨r, h, sk_nil.1 (by simpa using h2)⟩
      · cases h1
    · rintro ⟨r', h1, h2⟩
      rw [h] at h1
      cases h1
      rw [sk_nil.2 h2]; rfl
theorem app_en {q r l p : List UInt8} (h : l ++ p = q ++ r) (hq : En q) (hp : ∀ c ∈ p, bk.contains c = true) : ∃ m, l = q ++ m ∧ r = m ++ p := by
  obtain ⟨q', c, rfl, hc⟩ := hq
  rcases List.append_eq_append_iff.1 h with ⟨a, h1, h2⟩ | ⟨a, h1, h2⟩
  · rcases List.eq_nil_or_concat a with rfl | ⟨a', c', rfl⟩
    · refine ⟨[], by rw [h1]; simp, by simpa using h2.symm⟩
    · rw [List.concat_eq_append, ← List.append_assoc] at h1
      obtain ⟨_, h3⟩ := List.append_inj' h1 rfl
      cases h3
      rw [hp c (by rw [h2]; simp)] at hc
      cases hc
  · exact ⟨a, h1, h2⟩
theorem whl_pad {p p' : List UInt8} (l : List UInt8) (h : ∀ c ∈ p, bk.contains c = true) (h' : ∀ c ∈ p', bk.contains c = true) : whl (p ++ (l ++ p')) = whl l := by
  have key : ∀ t, whl (p ++ (l ++ p')) = some t ↔ whl l = some t := by
    intro t
    rw [whl_some, whl_some, pv_ahead _ _ h]
    constructor
    · rintro ⟨r, h1, h2⟩
      obtain ⟨q, g1, g2, g3⟩ := pv_sw 8 _ _ _ h1
      obtain ⟨m, rfl, rfl⟩ := app_en g1 g2 h'
      have hm : ∀ c ∈ m, bk.contains c = true := fun c hc => h2 c (by simp [hc])
      exact ⟨m, g3 m fun _ => nd_bk hm, hm⟩
    · rintro ⟨r, h1, h2⟩
      obtain ⟨q, rfl, g2, g3⟩ := pv_sw 8 _ _ _ h1
      have hm : ∀ c ∈ r ++ p', bk.contains c = true := fun c hc => by
        rcases List.mem_append.1 hc with hc | hc
        · exact h2 c hc
        · exact h' c hc
      exact ⟨r ++ p', by rw [List.append_assoc]; exact g3 _ fun _ => nd_bk hm, hm⟩
  cases hw : whl l with
  | some t => exact (key t).2 hw
  | none =>
    cases hv : whl (p ++ (l ++ p')) with
    | none => rfl
    | some t => rw [(key t).1 hv] at hw; cases hw
/-- Which sign a list's or an object's text begins with. -/
theorem pv_hd {n : Nat} {l r : List UInt8} {t : T} (h : pv n l = some (t, r)) : ∃ b m, sk l = b :: m ∧ (4 ≤ t.kd ↔ b.toNat = 91 ∨ b.toNat = 123) := by
  unfold pv at h
  split at h
  · cases h
  · rename_i b m hs
    refine ⟨b, m, hs, ?_⟩
    split at h
    · split at h
      · cases h; simp [T.kd]; omega
      · cases h
    · split at h
      · split at h
        · cases h; simp [T.kd]; omega
        · cases h
      · split at h
        · split at h
          · cases h; simp [T.kd]; omega
          · cases h
        · split at h
          · split at h
            · cases h
            · cases h; simp [T.kd]; omega
          · split at h
            · rename_i hb
              cases n with
              | zero => cases h
              | succ n =>
                simp only at h
                split at h
                · cases h
                · cases h; simp [T.kd, hb]
            · split at h
              · rename_i hb
                cases n with
                | zero => cases h
                | succ n =>
                  simp only at h
                  split at h
                  · cases h
                  · split at h
                    · cases h; simp [T.kd, hb]
                    · cases h
              · split at h
                · cases h
                · cases h; simp [T.kd]; omega
/-- Up to its last sign. -/
theorem whl_end {l : List UInt8} {t : T} (h : whl l = some t) : ∃ q r, l = q ++ r ∧ En q ∧ (∀ c ∈ r, bk.contains c = true) ∧ pv 8 l = some (t, r) ∧ (4 ≤ t.kd → ∀ m, m < q.length → whl (l.take m) = none) := by
  obtain ⟨r, h1, h2⟩ := whl_some.1 h
  obtain ⟨q, rfl, g2, g3⟩ := pv_sw 8 _ _ _ h1
  refine ⟨q, r, rfl, g2, h2, h1, fun hk m hm => ?_⟩
  cases hw : whl ((q ++ r).take m) with
  | none => rfl
  | some t' =>
    exfalso
    obtain ⟨r', k1, k2⟩ := whl_some.1 hw
    obtain ⟨q', j1, j2, j3⟩ := pv_sw 8 _ _ _ k1
    obtain ⟨y, hy⟩ : ∃ y, q ++ r = q' ++ y := ⟨r' ++ (q ++ r).drop m, by rw [← List.append_assoc, ← j1, List.take_append_drop]⟩
    have hq' : q'.length ≤ m := by
      have := congrArg List.length j1
      simp only [List.length_take, List.length_append] at this
      omega
    obtain ⟨b, mm, hb1, hb2⟩ := pv_hd h1
    obtain ⟨b', mm', hb1', hb2'⟩ := pv_hd k1
    have hbb : b = b' := by
      obtain ⟨p, hp', hl⟩ := sk_spec ((q ++ r).take m)
      rw [hb1'] at hl
      have : q ++ r = p ++ (b' :: (mm' ++ (q ++ r).drop m)) := by
        have e := (List.take_append_drop m (q ++ r)).symm
        rw [hl] at e
        simpa using e
      rw [this, sk_all _ hp', sk_non _ (sk_head hb1')] at hb1
      cases hb1
      rfl
    subst hbb
    have hk' : 4 ≤ t'.kd := hb2'.2 (hb2.1 hk)
    have e := j3 y (fun e => by omega)
    rw [← hy, h1] at e
    cases e
    have := congrArg List.length hy
    simp at this
    omega
end Go.Proofs.YtkkgcbaofdejjaaGreatDoor

namespace Go.Proofs.YtkkgcbaofdejjaaGreatDoor
open Go.RowKit

def sgn (c : Nat) : List UInt8 :=
  if c < 128 then [UInt8.ofNat c] else if c < 2048 then [UInt8.ofNat (192 + c / 64), UInt8.ofNat (128 + c % 64)]
  else if c < 65536 then [UInt8.ofNat (224 + c / 4096), UInt8.ofNat (128 + c / 64 % 64), UInt8.ofNat (128 + c % 64)]
  else [UInt8.ofNat (240 + c / 262144), UInt8.ofNat (128 + c / 4096 % 64), UInt8.ofNat (128 + c / 64 % 64), UInt8.ofNat (128 + c % 64)]
/-- Bytes as cells. -/
def bc (l : List UInt8) : Array Value := (l.map fun x => Value.int .u8 (x.toNat : Nat)).toArray
theorem of_u8 {n : Nat} (h : n < 256) : (UInt8.ofNat n).toNat = n := by simp; omega
set_option maxHeartbeats 4000000 in
set_option maxRecDepth 100000 in
theorem rsign_d {c : Nat} (hc : c ≤ 1114111) {w : World} : Calls Tryz.prog 58 #[.int .i64 (c : Nat)] w fun e w' => e = .returned (.slice (some ⟨w.heap.size, 0, none⟩) (sgn c).length (sgn c).length) ∧ w' = w.alloc (.cells (bc (sgn c)) 5) := by
  unfold sgn
  by_cases h1 : c < 128
  · rw [if_pos h1]
    simp only [bc, List.map_cons, List.map_nil, List.length_cons, List.length_nil]
    rw [of_u8 (by omega)]
    go_enter Tryz.func58, Tryz.ntmps58
    go_wp2
    go_ret
    exact ⟨rfl, rfl⟩
  rw [if_neg h1]
  by_cases h2 : c < 2048
  · rw [if_pos h2]
    simp only [bc, List.map_cons, List.map_nil, List.length_cons, List.length_nil]
    rw [of_u8 (by omega), of_u8 (by omega)]
    go_enter Tryz.func58, Tryz.ntmps58
    go_wp2
    go_ret
    exact ⟨rfl, rfl⟩
  rw [if_neg h2]
  by_cases h3 : c < 65536
  · rw [if_pos h3]
    simp only [bc, List.map_cons, List.map_nil, List.length_cons, List.length_nil]
    rw [of_u8 (by omega), of_u8 (by omega), of_u8 (by omega)]
    have d1 : decide ((c : Int) < 128) = false := decide_eq_false (by omega)
    have d2 : decide ((c : Int) < 2048) = false := decide_eq_false (by omega)
    have d3 : decide ((c : Int) < 65536) = true := decide_eq_true (by omega)
    have b1 : c / 4096 < 16 := by omega
    clear h1 h2 h3 hc
    go_enter Tryz.func58, Tryz.ntmps58
    go_wp2
    go_ret
    exact ⟨rfl, rfl⟩
  rw [if_neg h3]
  simp only [bc, List.map_cons, List.map_nil, List.length_cons, List.length_nil]
  rw [of_u8 (by omega), of_u8 (by omega), of_u8 (by omega), of_u8 (by omega)]
  have d1 : decide ((c : Int) < 128) = false := decide_eq_false (by omega)
  have d2 : decide ((c : Int) < 2048) = false := decide_eq_false (by omega)
  have d3 : decide ((c : Int) < 65536) = false := decide_eq_false (by omega)
  have b1 : c / 262144 < 5 := by omega
  clear h1 h2 h3 hc
  go_enter Tryz.func58, Tryz.ntmps58
  go_wp2
  go_ret
  exact ⟨rfl, rfl⟩
end Go.Proofs.YtkkgcbaofdejjaaGreatDoor

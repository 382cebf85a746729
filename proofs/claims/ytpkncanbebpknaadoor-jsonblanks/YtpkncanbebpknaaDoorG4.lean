/- KA, KB1, KB2, KB3, JSv, KT: laid together. -/
import Derived.Lib.MapLaws
import Derived.OwnWalk
import Derived.WalkKit
import Derived.ProofKit
import Derived.OpenShut
import Derived.ChangeOld
import Derived.Test.YtpkncanbebpknaaDoorProg
import Derived.Shelf.Unicode.ValidAny
import Derived.Lib.LaidU8
import Derived.Lib.LaidTab
import Derived.LaidLaws
import Derived.PinnedBridge
import Derived.Lay
import Derived.LaidMore
import Derived.Test.YtpkncanbebpknaaDoorG2
import Derived.Test.YtpkncanbebpknaaDoorG3
import Derived.Test.YtpkncanbebpknaaDoorRows
namespace Go.Proofs.YtpkncanbebpknaaDoor
open Go.RowKit

/-- It ends with a sign that is no blank. -/
def En (q : List UInt8) : Prop := ∃ p c, q = p ++ [c] ∧ bk.contains c = false
theorem En.app {q : List UInt8} (a : List UInt8) (h : En q) : En (a ++ q) := by
  obtain ⟨p, c, rfl, hc⟩ := h
  exact ⟨a ++ p, c, by simp, hc⟩
theorem En.one {c : UInt8} (h : bk.contains c = false) : En [c] := ⟨[], c, rfl, h⟩
theorem En.ne {q : List UInt8} (h : En q) : q ≠ [] := by
  obtain ⟨p, c, rfl, _⟩ := h; simp
/-- No figure stands first. -/
def nd (l : List UInt8) : Prop := ∀ b m, l = b :: m → dg b = false
theorem bk_dg {b : UInt8} (h : bk.contains b = true) : dg b = false := by
  simp [bk] at h
  rcases h with rfl | rfl | rfl | rfl <;> decide
theorem nd_pad {p m : List UInt8} {e : UInt8} (hp : ∀ c ∈ p, bk.contains c = true) (he : dg e = false) : nd (p ++ e :: m) := by
  intro b n h
  cases p with
  | nil => cases h; exact he
  | cons c p => cases h; exact bk_dg (hp b (by simp))
theorem nd_bk {p : List UInt8} (hp : ∀ c ∈ p, bk.contains c = true) : nd p := by
  intro b n h
  subst h
  exact bk_dg (hp b (by simp))
theorem sk_all {p : List UInt8} (m : List UInt8) (h : ∀ c ∈ p, bk.contains c = true) : sk (p ++ m) = sk m := by
  induction p with
  | nil => rfl
  | cons c p ih =>
    have h1 := h c (by simp)
    unfold sk at ih ⊢
    rw [List.cons_append, List.dropWhile_cons, if_pos h1]
    exact ih fun c hc => h c (by simp [hc])
theorem sk_non {b : UInt8} (m : List UInt8) (h : bk.contains b = false) : sk (b :: m) = b :: m := by
  unfold sk; rw [List.dropWhile_cons, if_neg (by rw [h]; decide)]
theorem sk_spec (l : List UInt8) : ∃ p, (∀ c ∈ p, bk.contains c = true) ∧ l = p ++ sk l := by
  refine ⟨l.takeWhile (bk.contains ·), fun c hc => ?_, (List.takeWhile_append_dropWhile).symm⟩
  exact List.all_takeWhile (p := (bk.contains ·)) (l := l) |> fun h => List.all_eq_true.1 h c hc
theorem sk_head {l m : List UInt8} {b : UInt8} (h : sk l = b :: m) : bk.contains b = false := by
  have h2 := sk_sk l
  rw [h] at h2
  cases hb : bk.contains b with
  | false => rfl
  | true =>
    unfold sk at h2
    rw [List.dropWhile_cons, if_pos hb] at h2
    have := congrArg List.length h2
    have := drop_while_le (bk.contains ·) m
    simp at *
    omega
theorem hp1 {b : UInt8} {l : List UInt8} (h : hp [b] l = true) : ∃ m, l = b :: m := by
  cases l with
  | nil => simp [hp] at h
  | cons c m => simp [hp] at h; exact ⟨m, by rw [h]⟩
theorem hp_c (b : UInt8) (m : List UInt8) : hp [b] (b :: m) = true := by simp [hp]
theorem tk_c (b : UInt8) (m : List UInt8) : tk [b] (b :: m) = m := by simp [tk]
theorem hp_f {b c : UInt8} {m m' : List UInt8} (h : hp [b] (c :: m) = false) : hp [b] (c :: m') = false := by
  simp [hp] at h ⊢; exact h
/-- A word ahead. -/
theorem hpw {p l : List UInt8} (h : hp p l = true) : l = p ++ tk p l := by
  unfold hp at h
  unfold tk
  rw [if_pos h]
  obtain ⟨t, rfl⟩ := List.isPrefixOf_iff_prefix.1 h
  simp
theorem hpw_c (p m : List UInt8) : hp p (p ++ m) = true := List.isPrefixOf_iff_prefix.2 ⟨m, rfl⟩
theorem tkw_c (p m : List UInt8) : tk p (p ++ m) = m := by
  unfold tk
  rw [if_pos (List.isPrefixOf_iff_prefix.2 ⟨m, rfl⟩)]
  simp
theorem f4_sw : ∀ (k c : Nat) (l : List UInt8) (n : Nat), f4 k c l = some n → ∃ q, l = q ++ l.drop k ∧ q.length = k ∧ ∀ r', f4 k c (q ++ r') = some n
  | 0, c, l, n, h => ⟨[], by simp, rfl, fun r' => h⟩
  | k + 1, c, [], n, h => by cases h
  | k + 1, c, b :: l, n, h => by
    unfold f4 at h
    cases hq : fg b.toNat with
    | none => rw [hq] at h; cases h
    | some m =>
      rw [hq] at h
      obtain ⟨q, h1, h2, h3⟩ := f4_sw k _ l n h
      refine ⟨b :: q, ?_, by simp [h2], fun r' => ?_⟩
      · rw [List.drop_succ_cons, List.cons_append, ← h1]
      · rw [List.cons_append]
        unfold f4
        rw [hq]
        exact h3 r'
theorem drop_app {q r : List UInt8} {k : Nat} (h : q.length = k) : (q ++ r).drop k = r := by subst h; simp
theorem cdd_sw {l r : List UInt8} {c : Nat} (h : cdd l = some (c, r)) : ∃ q, l = q ++ r ∧ ∀ r', cdd (q ++ r') = some (c, r') := by
  unfold cdd at h
  split at h
  · cases h
  · rename_i a ha
    obtain ⟨q, h1, h2, h3⟩ := f4_sw 4 0 l a ha
    split at h
    · rename_i hc
      cases h
      refine ⟨q, h1, fun r' => ?_⟩
      unfold cdd
      rw [h3]
      simp only [if_pos hc, drop_app h2]
    · rename_i hc
      split at h
      · cases h
      · rename_i hd
        split at h
        · rename_i hh
          split at h
          · cases h
          · rename_i x hx
            split at h
            · cases h
            · rename_i hw
              simp only [Option.some.injEq, Prod.mk.injEq] at h
              obtain ⟨rfl, rfl⟩ := h
              obtain ⟨q', g1, g2, g3⟩ := f4_sw 4 0 _ x hx
              have e1 := hpw hh
              refine ⟨q ++ ([92, 117] ++ q'), ?_, fun r' => ?_⟩
              · rw [List.append_assoc, List.append_assoc, ← g1, ← e1, ← h1]
              · unfold cdd
                rw [List.append_assoc, h3]
                simp only [if_neg hc, if_neg hd, drop_app h2]
                rw [List.append_assoc, hpw_c, tkw_c, g3]
                simp only [if_true, if_neg hw, drop_app g2]
        · cases h
theorem esc_sw {l r : List UInt8} {c : Nat} (h : esc l = some (c, r)) : ∃ q, l = q ++ r ∧ q ≠ [] ∧ ∀ r', esc (q ++ r') = some (c, r') := by
  cases l with
  | nil => cases h
  | cons b t =>
    have h : escN b.toNat t = some (c, r) := h
    have key : ∃ q, t = q ++ r ∧ ∀ r', escN b.toNat (q ++ r') = some (c, r') := by
      unfold escN at h ⊢
      split at h
      · rename_i h1; cases h; exact ⟨[], rfl, fun r' => by simp [if_pos h1]⟩
      · rename_i h1
        split at h
        · rename_i h2; cases h; exact ⟨[], rfl, fun r' => by simp [if_neg h1, if_pos h2]⟩
        · rename_i h2
          split at h
          · rename_i h3; cases h; exact ⟨[], rfl, fun r' => by simp [if_neg h1, if_neg h2, if_pos h3]⟩
          · rename_i h3
            split at h
            · rename_i h4; cases h; exact ⟨[], rfl, fun r' => by simp [if_neg h1, if_neg h2, if_neg h3, if_pos h4]⟩
            · rename_i h4
              split at h
              · rename_i h5; cases h; exact ⟨[], rfl, fun r' => by simp [if_neg h1, if_neg h2, if_neg h3, if_neg h4, if_pos h5]⟩
              · rename_i h5
                split at h
                · rename_i h6; cases h; exact ⟨[], rfl, fun r' => by simp [if_neg h1, if_neg h2, if_neg h3, if_neg h4, if_neg h5, if_pos h6]⟩
                · rename_i h6
                  split at h
                  · rename_i h7
                    obtain ⟨q, g1, g2⟩ := cdd_sw h
                    exact ⟨q, g1, fun r' => by simp only [if_neg h1, if_neg h2, if_neg h3, if_neg h4, if_neg h5, if_neg h6, if_pos h7]; exact g2 r'⟩
                  · cases h
    obtain ⟨q, rfl, hq⟩ := key
    exact ⟨b :: q, rfl, by simp, fun r' => hq r'⟩
theorem dec_go {b : UInt8} (t : List UInt8) : Lib.decodeGo (st (b :: t)) = Lib.decodeL (b :: t) := by
  unfold Lib.decodeGo
  rw [if_neg (by rw [st_size]; simp)]
  rfl
/-- A sign of UTF-8 ahead: what follows doesn't matter. -/
theorem dec_sw {l : List UInt8} (hne : l ≠ []) (hv : ¬ ((Lib.decodeL l).1 = 65533 ∧ (Lib.decodeL l).2 = 1)) : ∃ q, l = q ++ l.drop (Lib.decodeL l).2 ∧ q ≠ [] ∧ q.length = (Lib.decodeL l).2 ∧ ∀ r', Lib.decodeL (q ++ r') = Lib.decodeL l := by
  have hw1 := Lib.decodeL_width l
  have hw2 := Lib.decodeL_le l hne
  refine ⟨l.take (Lib.decodeL l).2, (List.take_append_drop _ _).symm, ?_, by simp; omega, ?_⟩
  · intro h
    have := congrArg List.length h
    rw [List.length_take, List.length_nil] at this
    omega
  · intro r'
    rw [Lib.decodeL_N] at hv ⊢
    rw [Lib.decodeL_N]
    rcases Lib.decodeN_shape l.length (l.getD 0 0).toNat (l.getD 1 0).toNat (l.getD 2 0).toNat (l.getD 3 0).toNat with ⟨c, e⟩ | ⟨c1, c2, c3, cv, e⟩ | ⟨c1, c2, c3, c4, cv, cs, e⟩ | ⟨c1, c2, c3, c4, c5, cv, cw, e⟩ | e
    · have hl : 0 < l.length := List.length_pos_iff.2 hne
      rw [e]
      simp only
      rw [Lib.takeA l hl]
      unfold Lib.decodeN
      rw [if_pos (by simpa using c)]
      rfl
    · rw [e]
      simp only
      rw [Lib.takeB l c2]
      simp only [List.cons_append, List.nil_append, List.length_cons, List.getD_cons_zero, List.getD_cons_succ]
      unfold Lib.decodeN
      rw [if_neg (by omega), if_pos ⟨c1, by omega, c3⟩, if_pos cv]
    · rw [e]
      simp only
      rw [Lib.takeC l c2]
      simp only [List.cons_append, List.nil_append, List.length_cons, List.getD_cons_zero, List.getD_cons_succ]
      unfold Lib.decodeN
      rw [if_neg (by omega), if_neg (by omega), if_pos ⟨c1, ⟨by omega, c3⟩, by omega, c4⟩, if_pos ⟨cv, by omega⟩]
    · rw [e]
      simp only
      rw [Lib.takeD l c2]
      simp only [List.cons_append, List.nil_append, List.length_cons, List.getD_cons_zero, List.getD_cons_succ]
      unfold Lib.decodeN
      rw [if_neg (by omega), if_neg (by omega), if_neg (by omega), if_pos ⟨c1, ⟨by omega, c3⟩, ⟨by omega, c4⟩, by omega, c5⟩, if_pos ⟨cv, by omega⟩]
    · rw [e] at hv
      exact absurd ⟨rfl, rfl⟩ hv
theorem pln_sw {l r : List UInt8} {c : Nat} (h : pln l = some (c, r)) : ∃ q, l = q ++ r ∧ q ≠ [] ∧ ∀ r', pln (q ++ r') = some (c, r') := by
  cases l with
  | nil => rw [show pln [] = none from rfl] at h; cases h
  | cons b t =>
    unfold pln at h
    rw [dec_go] at h
    split at h
    · cases h
    · rename_i hn
      have hv : ¬ ((Lib.decodeL (b :: t)).1 = 65533 ∧ (Lib.decodeL (b :: t)).2 = 1) := fun e => hn (.inr ⟨e.1, by omega⟩)
      obtain ⟨q, h1, h2, h3, h4⟩ := dec_sw (by simp) hv
      simp only [Option.some.injEq, Prod.mk.injEq] at h
      obtain ⟨hc, hr⟩ := h
      rw [hr] at h1
      refine ⟨q, h1, h2, fun r' => ?_⟩
      cases q with
      | nil => exact absurd rfl h2
      | cons b' q =>
        unfold pln
        rw [List.cons_append, dec_go, ← List.cons_append, h4, if_neg hn, hc]
        rw [← h3]
        simp
theorem ltr_sw {l r : List UInt8} {c : Nat} (h : ltr l = some (c, r)) : ∃ q, l = q ++ r ∧ q ≠ [] ∧ ∀ r', ltr (q ++ r') = some (c, r') := by
  unfold ltr at h
  split at h
  · rename_i hh
    obtain ⟨m, rfl⟩ := hp1 hh
    rw [tk_c] at h
    obtain ⟨q, rfl, h2, h3⟩ := esc_sw h
    refine ⟨92 :: q, rfl, by simp, fun r' => ?_⟩
    unfold ltr
    rw [List.cons_append, hp_c, tk_c]
    exact h3 r'
  · rename_i hh
    obtain ⟨q, rfl, h2, h3⟩ := pln_sw h
    refine ⟨q, rfl, h2, fun r' => ?_⟩
    cases q with
    | nil => exact absurd rfl h2
    | cons b q =>
      unfold ltr
      rw [List.cons_append, hp_f (m := q ++ r) (by simpa using hh)]
      exact h3 r'
theorem ql_sw : ∀ (n : Nat) {out l s r : List UInt8}, ql n out l = some (s, r) → ∃ q, l = q ++ r ∧ En q ∧ ∀ n' r', q.length ≤ n' → ql n' out (q ++ r') = some (s, r')
  | n, out, l, s, r, h => by
    cases hh : hp [34] l with
    | true =>
      rw [ql_end hh] at h
      obtain ⟨m, rfl⟩ := hp1 hh
      rw [tk_c] at h
      cases h
      exact ⟨[34], rfl, .one (by decide), fun n' r' _ => by rw [List.cons_append, List.nil_append, ql_end (hp_c _ _), tk_c]⟩
    | false =>
      cases hl : ltr l with
      | none => rw [ql_non hh hl] at h; cases h
      | some x =>
        obtain ⟨c, m⟩ := x
        cases n with
        | zero => rw [ql, if_neg (by simp [hh]), hl] at h; cases h
        | succ n =>
          rw [ql_go hh hl] at h
          obtain ⟨q, rfl, h2, h3⟩ := ql_sw n h
          obtain ⟨q1, rfl, g2, g3⟩ := ltr_sw hl
          refine ⟨q1 ++ q, by simp, h2.app q1, fun n' r' hn => ?_⟩
          cases q1 with
          | nil => exact absurd rfl g2
          | cons b q1 =>
            cases n' with
            | zero => simp at hn
            | succ n' =>
              rw [List.append_assoc]
              rw [ql_go (by rw [List.cons_append] at hh ⊢; exact hp_f hh) (g3 _)]
              exact h3 n' r' (by simp at hn; omega)
theorem qt_sw {l s r : List UInt8} (h : qt l = some (s, r)) : ∃ q, l = q ++ r ∧ En q ∧ ∀ r', qt (q ++ r') = some (s, r') := by
  unfold qt at h
  split at h
  · rename_i hh
    obtain ⟨m, rfl⟩ := hp1 hh
    rw [tk_c] at h
    obtain ⟨q, rfl, h2, h3⟩ := ql_sw _ h
    refine ⟨34 :: q, rfl, h2.app [34], fun r' => ?_⟩
    unfold qt
    rw [List.cons_append, hp_c, tk_c, if_pos rfl]
    exact h3 _ r' (by simp; omega)
  · cases h
theorem qt_head {l s r : List UInt8} (h : qt l = some (s, r)) : ∃ m, l = 34 :: m := by
  unfold qt at h
  split at h
  · rename_i hh; exact hp1 hh
  · cases h
theorem take_dg {ds r : List UInt8} (h : ∀ c ∈ ds, dg c = true) (hr : nd r) : (ds ++ r).takeWhile dg = ds ∧ (ds ++ r).dropWhile dg = r := by
  induction ds with
  | nil =>
    cases r with
    | nil => exact ⟨rfl, rfl⟩
    | cons b m =>
      have := hr b m rfl
      simp [this]
  | cons c ds ih =>
    have h1 := h c (by simp)
    obtain ⟨i1, i2⟩ := ih fun c hc => h c (by simp [hc])
    simp only [List.cons_append, List.takeWhile_cons, List.dropWhile_cons, h1, if_true, i1, i2]
    exact ⟨trivial, trivial⟩
theorem dg_bk {c : UInt8} (h : dg c = true) : bk.contains c = false := by
  cases hb : bk.contains c with
  | false => rfl
  | true => rw [bk_dg hb] at h; cases h
theorem nm_sw {l r : List UInt8} {i : Int} (h : nm l = some (i, r)) : ∃ q, l = q ++ r ∧ En q ∧ ∀ r', nd r' → nm (q ++ r') = some (i, r') := by
  unfold nm at h
  cases hq : nmO (hp [45] l) ((tk [45] l).takeWhile dg) with
  | none => rw [hq] at h; cases h
  | some k =>
    rw [hq] at h
    simp only [Option.map_some, Option.some.injEq, Prod.mk.injEq] at h
    obtain ⟨rfl, rfl⟩ := h
    generalize hds : (tk [45] l).takeWhile dg = ds at hq
    have hall : ∀ c ∈ ds, dg c = true := fun c hc => by
      have := List.all_takeWhile (p := dg) (l := tk [45] l)
      rw [hds] at this
      exact List.all_eq_true.1 this c hc
    have hne : ds ≠ [] := fun e => by subst e; simp [nmO] at hq
    have hsp : tk [45] l = ds ++ (tk [45] l).dropWhile dg := by rw [← hds]; exact (List.takeWhile_append_dropWhile).symm
    generalize (tk [45] l).dropWhile dg = r at hsp
    have hen : En ds := by
      refine ⟨ds.dropLast, ds.getLast hne, (List.dropLast_concat_getLast hne).symm, dg_bk (hall _ (List.getLast_mem hne))⟩
    cases hh : hp [45] l with
    | true =>
      obtain ⟨m, rfl⟩ := hp1 hh
      rw [tk_c] at hsp
      subst hsp
      refine ⟨45 :: ds, rfl, hen.app [45], fun r' hr' => ?_⟩
      unfold nm
      rw [List.cons_append, hp_c, tk_c, (take_dg hall hr').1, (take_dg hall hr').2]
      rw [hh] at hq
      rw [hq]; rfl
    | false =>
      rw [tk_no hh] at hsp
      subst hsp
      refine ⟨ds, rfl, hen, fun r' hr' => ?_⟩
      have hh' : hp [45] (ds ++ r') = false := by
        cases ds with
        | nil => exact absurd rfl hne
        | cons c ds => rw [List.cons_append] at hh ⊢; exact hp_f hh
      unfold nm
      rw [hh', tk_no hh', (take_dg hall hr').1, (take_dg hall hr').2]
      rw [hh] at hq
      rw [hq]; rfl
section
variable {α : Type} {one : List UInt8 → Option (α × List UInt8)} {e : UInt8}
theorem its_sw (ho : ∀ l x r, one l = some (x, r) → ∃ q, l = q ++ r ∧ En q ∧ ∀ r', nd r' → one (q ++ r') = some (x, r')) (he : bk.contains e = false) (hd : dg e = false) : ∀ (n : Nat) {xs ys : List α} {l r : List UInt8}, its one e n xs l = some (ys, r) → ∃ q, l = q ++ r ∧ En q ∧ ∀ n' r', q.length ≤ n' → its one e n' xs (q ++ r') = some (ys, r')
  | n, xs, ys, l, r, h => by
    cases h1 : one l with
    | none => rw [its_non h1] at h; cases h
    | some y =>
      obtain ⟨x, r1⟩ := y
      obtain ⟨q1, rfl, a2, a3⟩ := ho _ _ _ h1
      obtain ⟨p, hp', hr1⟩ := sk_spec r1
      cases hE : hp [e] (sk r1) with
      | true =>
        rw [its_end h1 hE] at h
        obtain ⟨m, hm⟩ := hp1 hE
        rw [hm, tk_c] at h
        rw [hm] at hr1
        cases h
        refine ⟨q1 ++ (p ++ [e]), by rw [hr1]; simp, (En.app p (.one he)).app q1, fun n' r' _ => ?_⟩
        have e1 : q1 ++ (p ++ [e]) ++ r' = q1 ++ (p ++ e :: r') := by simp
        have e2 : sk (p ++ e :: r') = e :: r' := by rw [sk_all _ hp', sk_non _ he]
        rw [e1, its_end (a3 _ (nd_pad hp' hd)) (by rw [e2]; exact hp_c _ _), e2, tk_c]
      | false =>
        cases hc : hp [44] (sk r1) with
        | false => rw [its_bad h1 hE hc] at h; cases h
        | true =>
          obtain ⟨m, hm⟩ := hp1 hc
          cases n with
          | zero => rw [its, h1] at h; simp [hE, hc] at h
          | succ n =>
            rw [its_go h1 hE hc, hm, tk_c] at h
            obtain ⟨q, rfl, b2, b3⟩ := its_sw ho he hd n h
            rw [hm] at hr1
            refine ⟨q1 ++ (p ++ 44 :: q), by rw [hr1]; simp, ((b2.app [44]).app p).app q1, fun n' r' hn => ?_⟩
            have e1 : q1 ++ (p ++ 44 :: q) ++ r' = q1 ++ (p ++ 44 :: (q ++ r')) := by simp
            have e2 : sk (p ++ 44 :: (q ++ r')) = 44 :: (q ++ r') := by rw [sk_all _ hp', sk_non _ (by decide)]
            cases n' with
            | zero => simp at hn
            | succ n' =>
              rw [e1, its_go (a3 _ (nd_pad hp' (by decide))) (by rw [e2]; rw [hm] at hE; exact hp_f hE) (by rw [e2]; exact hp_c _ _), e2, tk_c]
              exact b3 n' r' (by simp at hn; omega)
theorem rw_sw {b : UInt8} (ho : ∀ l x r, one l = some (x, r) → ∃ q, l = q ++ r ∧ En q ∧ ∀ r', nd r' → one (q ++ r') = some (x, r')) (hb : bk.contains b = false) (he : bk.contains e = false) (hd : dg e = false) {ys : List α} {l r : List UInt8} (h : rw' one b e l = some (ys, r)) : ∃ q, l = q ++ r ∧ En q ∧ ∀ r', rw' one b e (q ++ r') = some (ys, r') := by
  unfold rw' at h
  split at h
  · rename_i hh
    obtain ⟨p, hp', hl⟩ := sk_spec l
    obtain ⟨m, hm⟩ := hp1 hh
    rw [hm] at h hl
    rw [tk_c] at h
    obtain ⟨p2, hp2, hm2⟩ := sk_spec m
    split at h
    · rename_i hE
      obtain ⟨m', hm'⟩ := hp1 hE
      rw [hm', tk_c] at h
      rw [hm'] at hm2
      cases h
      refine ⟨p ++ (b :: (p2 ++ [e])), by rw [hl, hm2]; simp, ((En.app p2 (.one he)).app [b]).app p, fun r' => ?_⟩
      have e1 : p ++ (b :: (p2 ++ [e])) ++ r' = p ++ (b :: (p2 ++ e :: r')) := by simp
      have e2 : sk (p ++ (b :: (p2 ++ e :: r'))) = b :: (p2 ++ e :: r') := by rw [sk_all _ hp', sk_non _ hb]
      have e3 : sk (p2 ++ e :: r') = e :: r' := by rw [sk_all _ hp2, sk_non _ he]
      unfold rw'
      rw [e1, e2, hp_c, tk_c, e3, hp_c, tk_c]
      rfl
    · rename_i hE
      obtain ⟨q, hq, h2, h3⟩ := its_sw ho he hd _ h
      rw [hq] at hm2
      have hqs : q ++ r = sk m := hq.symm
      cases q with
      | nil => exact absurd rfl h2.ne
      | cons c q =>
        have hcb : bk.contains c = false := sk_head (l := m) (by rw [← hqs]; rfl)
        refine ⟨p ++ (b :: (p2 ++ (c :: q))), by rw [hl, hm2]; simp, ((h2.app p2).app [b]).app p, fun r' => ?_⟩
        have e1 : p ++ (b :: (p2 ++ (c :: q))) ++ r' = p ++ (b :: (p2 ++ (c :: (q ++ r')))) := by simp
        have e2 : sk (p ++ (b :: (p2 ++ (c :: (q ++ r'))))) = b :: (p2 ++ (c :: (q ++ r'))) := by rw [sk_all _ hp', sk_non _ hb]
        have e3 : sk (p2 ++ (c :: (q ++ r'))) = c :: (q ++ r') := by rw [sk_all _ hp2, sk_non _ hcb]
        unfold rw'
        rw [e1, e2, hp_c, tk_c, e3, if_pos rfl, if_neg]
        · exact h3 _ r' (by simp; omega)
        · rw [← hqs, List.cons_append] at hE
          rw [Bool.not_eq_true] at hE ⊢
          exact hp_f hE
  · cases h
end
theorem pr_sw {one : List UInt8 → Option (T × List UInt8)} (ho : ∀ l x r, one l = some (x, r) → ∃ q, l = q ++ r ∧ En q ∧ ∀ r', nd r' → one (q ++ r') = some (x, r')) {l r : List UInt8} {x : List UInt8 × T} (h : pr one l = some (x, r)) : ∃ q, l = q ++ r ∧ En q ∧ ∀ r', nd r' → pr one (q ++ r') = some (x, r') := by
  unfold pr at h
  split at h
  · cases h
  · rename_i s r1 hq
    obtain ⟨p, hp', hl⟩ := sk_spec l
    obtain ⟨m0, hm0⟩ := qt_head hq
    obtain ⟨q1, hq1, a2, a3⟩ := qt_sw hq
    split at h
    · rename_i hh
      obtain ⟨p2, hp2, hr1⟩ := sk_spec r1
      obtain ⟨m, hm⟩ := hp1 hh
      rw [hm, tk_c] at h
      rw [hm] at hr1
      split at h
      · cases h
      · rename_i v r2 hv
        cases h
        obtain ⟨q2, rfl, b2, b3⟩ := ho _ _ _ hv
        rw [hq1, hr1] at hl
        cases q1 with
        | nil => exact absurd rfl a2.ne
        | cons c q1 =>
          have hcb : bk.contains c = false := sk_head (l := l) (by rw [hq1]; rfl)
          refine ⟨p ++ ((c :: q1) ++ (p2 ++ 58 :: q2)), by rw [hl]; simp, (((b2.app [58]).app p2).app _).app p, fun r' hr' => ?_⟩
          have e1 : p ++ ((c :: q1) ++ (p2 ++ 58 :: q2)) ++ r' = p ++ (c :: (q1 ++ (p2 ++ 58 :: (q2 ++ r')))) := by simp
          have e2 : sk (p ++ (c :: (q1 ++ (p2 ++ 58 :: (q2 ++ r'))))) = (c :: q1) ++ (p2 ++ 58 :: (q2 ++ r')) := by rw [sk_all _ hp', sk_non _ hcb]; rfl
          have e3 : sk (p2 ++ 58 :: (q2 ++ r')) = 58 :: (q2 ++ r') := by rw [sk_all _ hp2, sk_non _ (by decide)]
          unfold pr
          rw [e1, e2, a3]
          simp only [e3, hp_c, tk_c, if_true, b3 _ hr']
    · cases h
def T.kd : T → Int
  | .mk k _ _ _ _ => k
/-- What follows a value doesn't matter. -/
theorem pv_sw : ∀ (n : Nat) (l : List UInt8) (x : T) (r : List UInt8), pv n l = some (x, r) → ∃ q, l = q ++ r ∧ En q ∧ ∀ r', (x.kd = 2 → nd r') → pv n (q ++ r') = some (x, r')
  | n, l, x, r, h => by
    obtain ⟨p, hp', hl⟩ := sk_spec l
    have key : ∀ b m, sk l = b :: m → (∃ q, b :: m = q ++ r ∧ En q ∧ ∀ r', (x.kd = 2 → nd r') → pv n (q ++ r') = some (x, r')) → ∃ q, l = q ++ r ∧ En q ∧ ∀ r', (x.kd = 2 → nd r') → pv n (q ++ r') = some (x, r') := by
      rintro b m hs ⟨q, h1, h2, h3⟩
      refine ⟨p ++ q, by rw [hl, hs, h1]; simp, h2.app p, fun r' hr' => ?_⟩
      have := h3 r' hr'
      unfold pv at this ⊢
      rw [List.append_assoc, sk_all _ hp']
      exact this
    unfold pv at h
    cases hs : sk l with
    | nil => rw [hs] at h; cases h
    | cons b m =>
      rw [hs] at h
      refine key b m hs ?_
      have hbb := sk_head hs
      simp only at h
      have wd : ∀ (w : List UInt8) (c : UInt8) (v : List UInt8), w = v ++ [c] → bk.contains c = false → hp w (b :: m) = true → ∃ q, b :: m = q ++ tk w (b :: m) ∧ En q ∧ q = w := fun w c v hw hc hh => ⟨w, hpw hh, ⟨v, c, hw, hc⟩, rfl⟩
      split at h
      · rename_i hb
        split at h
        · rename_i hh
          cases h
          obtain ⟨q, g1, g2, rfl⟩ := wd [110, 117, 108, 108] 108 [110, 117, 108] rfl (by decide) hh
          refine ⟨_, g1, g2, fun r' _ => ?_⟩
          unfold pv
          rw [show sk ([110, 117, 108, 108] ++ r') = [110, 117, 108, 108] ++ r' from sk_non _ (by decide)]
          have k1 := hpw_c [110, 117, 108, 108] r'
          have k2 := tkw_c [110, 117, 108, 108] r'
          simp only [List.cons_append, List.nil_append] at k1 k2 ⊢
          simp [k1, k2]
        · cases h
      · rename_i hb1
        split at h
        · split at h
          · rename_i hh
            cases h
            obtain ⟨q, g1, g2, rfl⟩ := wd [116, 114, 117, 101] 101 [116, 114, 117] rfl (by decide) hh
            refine ⟨_, g1, g2, fun r' _ => ?_⟩
            unfold pv
            rw [show sk ([116, 114, 117, 101] ++ r') = [116, 114, 117, 101] ++ r' from sk_non _ (by decide)]
            have k1 := hpw_c [116, 114, 117, 101] r'
            have k2 := tkw_c [116, 114, 117, 101] r'
            simp only [List.cons_append, List.nil_append] at k1 k2 ⊢
            simp [k1, k2]
          · cases h
        · rename_i hb2
          split at h
          · split at h
            · rename_i hh
              cases h
              obtain ⟨q, g1, g2, rfl⟩ := wd [102, 97, 108, 115, 101] 101 [102, 97, 108, 115] rfl (by decide) hh
              refine ⟨_, g1, g2, fun r' _ => ?_⟩
              unfold pv
              rw [show sk ([102, 97, 108, 115, 101] ++ r') = [102, 97, 108, 115, 101] ++ r' from sk_non _ (by decide)]
              have k1 := hpw_c [102, 97, 108, 115, 101] r'
              have k2 := tkw_c [102, 97, 108, 115, 101] r'
              simp only [List.cons_append, List.nil_append] at k1 k2 ⊢
              simp [k1, k2]
            · cases h
          · rename_i hb3
            split at h
            · rename_i hb4
              split at h
              · cases h
              · rename_i hq
                cases h
                obtain ⟨q, g1, g2, g3⟩ := qt_sw hq
                refine ⟨q, g1, g2, fun r' _ => ?_⟩
                cases q with
                | nil => exact absurd rfl g2.ne
                | cons c q =>
                  cases g1
                  unfold pv
                  rw [List.cons_append, sk_non _ hbb]
                  simp only [if_neg hb1, if_neg hb2, if_neg hb3, if_pos hb4, ← List.cons_append, g3]
            · rename_i hb4
              split at h
              · rename_i hb5
                cases n with
                | zero => cases h
                | succ n =>
                  simp only at h
                  split at h
                  · cases h
                  · rename_i hq
                    cases h
                    obtain ⟨q, g1, g2, g3⟩ := rw_sw (fun l x r h => by obtain ⟨q, h1, h2, h3⟩ := pv_sw n l x r h; exact ⟨q, h1, h2, fun r' hr' => h3 r' fun _ => hr'⟩) (by decide) (by decide) (by decide) hq
                    refine ⟨q, g1, g2, fun r' _ => ?_⟩
                    cases q with
                    | nil => exact absurd rfl g2.ne
                    | cons c q =>
                      cases g1
                      unfold pv
                      rw [List.cons_append, sk_non _ hbb]
                      simp only [if_neg hb1, if_neg hb2, if_neg hb3, if_neg hb4, if_pos hb5, ← List.cons_append, g3]
              · rename_i hb5
                split at h
                · rename_i hb6
                  cases n with
                  | zero => cases h
                  | succ n =>
                    simp only at h
                    split at h
                    · cases h
                    · rename_i hq
                      split at h
                      · rename_i ho
                        cases h
                        obtain ⟨q, g1, g2, g3⟩ := rw_sw (fun l x r h => pr_sw (fun l x r h => by obtain ⟨q, h1, h2, h3⟩ := pv_sw n l x r h; exact ⟨q, h1, h2, fun r' hr' => h3 r' fun _ => hr'⟩) h) (by decide) (by decide) (by decide) hq
                        refine ⟨q, g1, g2, fun r' _ => ?_⟩
                        cases q with
                        | nil => exact absurd rfl g2.ne
                        | cons c q =>
                          cases g1
                          unfold pv
                          rw [List.cons_append, sk_non _ hbb]
                          simp only [if_neg hb1, if_neg hb2, if_neg hb3, if_neg hb4, if_neg hb5, if_pos hb6, ← List.cons_append, g3, ho, if_true]
                      · cases h
                · rename_i hb6
                  split at h
                  · cases h
                  · rename_i hq
                    cases h
                    obtain ⟨q, g1, g2, g3⟩ := nm_sw hq
                    refine ⟨q, g1, g2, fun r' hr' => ?_⟩
                    cases q with
                    | nil => exact absurd rfl g2.ne
                    | cons c q =>
                      cases g1
                      unfold pv
                      rw [List.cons_append, sk_non _ hbb]
                      simp only [if_neg hb1, if_neg hb2, if_neg hb3, if_neg hb4, if_neg hb5, if_neg hb6, ← List.cons_append, g3 r' (hr' rfl)]

/-- A text, whose blanks at both ends don't matter. -/
theorem pv_ahead (n : Nat) {p : List UInt8} (l : List UInt8) (h : ∀ c ∈ p, bk.contains c = true) : pv n (p ++ l) = pv n l := by
  unfold pv; rw [sk_all _ h]
theorem sk_nil {r : List UInt8} : sk r = [] ↔ ∀ c ∈ r, bk.contains c = true := by
  constructor
  · intro h
    obtain ⟨p, h1, h2⟩ := sk_spec r
    rw [h, List.append_nil] at h2
    rw [h2]; exact h1
  · intro h
    have := sk_all (p := r) [] h
    rw [List.append_nil] at this
    exact this
/-- Is all of it a value's text? -/
def whl (l : List UInt8) : Option T := match pv 8 l with
  | none => none
  | some (t, r) => if (sk r).isEmpty then some t else none
theorem whl_some {l : List UInt8} {t : T} : whl l = some t ↔ ∃ r, pv 8 l = some (t, r) ∧ ∀ c ∈ r, bk.contains c = true := by
  unfold whl
  split
  · rename_i h
    constructor
    · intro h; cases h
    · rintro ⟨r, h1, _⟩; rw [h] at h1; cases h1
  · rename_i t' r h
    constructor
    · intro h1
      split at h1
      · rename_i h2
        cases h1
        exact ⟨r, h, sk_nil.1 (by simpa using h2)⟩
      · cases h1
    · rintro ⟨r', h1, h2⟩
      rw [h] at h1
      cases h1
      rw [sk_nil.2 h2]; rfl
theorem app_en {q r l p : List UInt8} (h : l ++ p = q ++ r) (hq : En q) (hp : ∀ c ∈ p, bk.contains c = true) : ∃ m, l = q ++ m ∧ r = m ++ p := by
  obtain ⟨q', c, rfl, hc⟩ := hq
  rcases List.append_eq_append_iff.1 h with ⟨a, h1, h2⟩ | ⟨a, h1, h2⟩
  · rcases List.eq_nil_or_concat a with rfl | ⟨a', c', rfl⟩
    · refine ⟨[], by rw [h1]; simp, by simpa using h2.symm⟩
    · rw [List.concat_eq_append, ← List.append_assoc] at h1
      obtain ⟨_, h3⟩ := List.append_inj' h1 rfl
      cases h3
      rw [hp c (by rw [h2]; simp)] at hc
      cases hc
  · exact ⟨a, h1, h2⟩
theorem whl_pad {p p' : List UInt8} (l : List UInt8) (h : ∀ c ∈ p, bk.contains c = true) (h' : ∀ c ∈ p', bk.contains c = true) : whl (p ++ (l ++ p')) = whl l := by
  have key : ∀ t, whl (p ++ (l ++ p')) = some t ↔ whl l = some t := by
    intro t
    rw [whl_some, whl_some, pv_ahead _ _ h]
    constructor
    · rintro ⟨r, h1, h2⟩
      obtain ⟨q, g1, g2, g3⟩ := pv_sw 8 _ _ _ h1
      obtain ⟨m, rfl, rfl⟩ := app_en g1 g2 h'
      have hm : ∀ c ∈ m, bk.contains c = true := fun c hc => h2 c (by simp [hc])
      exact ⟨m, g3 m fun _ => nd_bk hm, hm⟩
    · rintro ⟨r, h1, h2⟩
      obtain ⟨q, rfl, g2, g3⟩ := pv_sw 8 _ _ _ h1
      have hm : ∀ c ∈ r ++ p', bk.contains c = true := fun c hc => by
        rcases List.mem_append.1 hc with hc | hc
        · exact h2 c hc
        · exact h' c hc
      exact ⟨r ++ p', by rw [List.append_assoc]; exact g3 _ fun _ => nd_bk hm, hm⟩
  cases hw : whl l with
  | some t => exact (key t).2 hw
  | none =>
    cases hv : whl (p ++ (l ++ p')) with
    | none => rfl
    | some t => rw [(key t).1 hv] at hw; cases hw
/-- Which sign a list's or an object's text begins with. -/
theorem pv_hd {n : Nat} {l r : List UInt8} {t : T} (h : pv n l = some (t, r)) : ∃ b m, sk l = b :: m ∧ (4 ≤ t.kd ↔ b.toNat = 91 ∨ b.toNat = 123) := by
  unfold pv at h
  split at h
  · cases h
  · rename_i b m hs
    refine ⟨b, m, hs, ?_⟩
    split at h
    · split at h
      · cases h; simp [T.kd]; omega
      · cases h
    · split at h
      · split at h
        · cases h; simp [T.kd]; omega
        · cases h
      · split at h
        · split at h
          · cases h; simp [T.kd]; omega
          · cases h
        · split at h
          · split at h
            · cases h
            · cases h; simp [T.kd]; omega
          · split at h
            · rename_i hb
              cases n with
              | zero => cases h
              | succ n =>
                simp only at h
                split at h
                · cases h
                · cases h; simp [T.kd, hb]
            · split at h
              · rename_i hb
                cases n with
                | zero => cases h
                | succ n =>
                  simp only at h
                  split at h
                  · cases h
                  · split at h
                    · cases h; simp [T.kd, hb]
                    · cases h
              · split at h
                · cases h
                · cases h; simp [T.kd]; omega
/-- Up to its last sign. -/
theorem whl_end {l : List UInt8} {t : T} (h : whl l = some t) : ∃ q r, l = q ++ r ∧ En q ∧ (∀ c ∈ r, bk.contains c = true) ∧ pv 8 l = some (t, r) ∧ (4 ≤ t.kd → ∀ m, m < q.length → whl (l.take m) = none) := by
  obtain ⟨r, h1, h2⟩ := whl_some.1 h
  obtain ⟨q, rfl, g2, g3⟩ := pv_sw 8 _ _ _ h1
  refine ⟨q, r, rfl, g2, h2, h1, fun hk m hm => ?_⟩
  cases hw : whl ((q ++ r).take m) with
  | none => rfl
  | some t' =>
    exfalso
    obtain ⟨r', k1, k2⟩ := whl_some.1 hw
    obtain ⟨q', j1, j2, j3⟩ := pv_sw 8 _ _ _ k1
    obtain ⟨y, hy⟩ : ∃ y, q ++ r = q' ++ y := ⟨r' ++ (q ++ r).drop m, by rw [← List.append_assoc, ← j1, List.take_append_drop]⟩
    have hq' : q'.length ≤ m := by
      have := congrArg List.length j1
      simp only [List.length_take, List.length_append] at this
      omega
    obtain ⟨b, mm, hb1, hb2⟩ := pv_hd h1
    obtain ⟨b', mm', hb1', hb2'⟩ := pv_hd k1
    have hbb : b = b' := by
      obtain ⟨p, hp', hl⟩ := sk_spec ((q ++ r).take m)
      rw [hb1'] at hl
      have : q ++ r = p ++ (b' :: (mm' ++ (q ++ r).drop m)) := by
        have e := (List.take_append_drop m (q ++ r)).symm
        rw [hl] at e
        simpa using e
      rw [this, sk_all _ hp', sk_non _ (sk_head hb1')] at hb1
      cases hb1
      rfl
    subst hbb
    have hk' : 4 ≤ t'.kd := hb2'.2 (hb2.1 hk)
    have e := j3 y (fun e => by omega)
    rw [← hy, h1] at e
    cases e
    have := congrArg List.length hy
    simp at this
    omega
end Go.Proofs.YtpkncanbebpknaaDoor

namespace Go.Proofs.YtpkncanbebpknaaDoor
open Go.RowKit Go.Shelf

/-- Bytes as cells. -/
def bv (l : List UInt8) : List Value := l.map fun x => Value.int .u8 (x.toNat : Nat)
theorem bv_app (a b : List UInt8) : bv (a ++ b) = bv a ++ bv b := by simp [bv]
theorem bv_len (l : List UInt8) : (bv l).length = l.length := by simp [bv]
/-- A row of bytes of the call's own. -/
abbrev Ow (w : World) (B : Nat) (v : Value) (l : List UInt8) : Prop := w.ownsRow B 5 1 v l.length (bv l)
theorem Ow.bs {w : World} {B : Nat} {v : Value} {l : List UInt8} (h : Ow w B v l) : BsA w v l := by
  obtain ⟨h1, ⟨rfl, h2⟩ | ⟨g, cap, cur, rfl, hB, hg, hn, hm, hs, ht⟩⟩ := h
  · exact ⟨none, 0, by rw [h2], .inl (List.length_eq_zero_iff.1 h2)⟩
  · refine ⟨_, cap, rfl, .inr ⟨g, 0, rfl, (Array.getElem?_eq_some_iff.1 hg).1, fun j x hj => ?_⟩⟩
    simp only [World.cell?, hg]
    rw [Nat.zero_add, ← Array.getElem?_toList]
    have hjl := (List.getElem?_eq_some_iff.1 hj).1
    have e := congrArg (·[j]?) ht
    simp only [List.getElem?_take] at e
    rw [if_pos (by omega)] at e
    rw [e]
    simp [bv, hj]
theorem Ow.slc {w : World} {B : Nat} {v : Value} {l : List UInt8} (h : Ow w B v l) : ∃ a cap, v = .slice a l.length cap := by
  obtain ⟨a, cap, rfl, _⟩ := h.bs
  exact ⟨a, cap, rfl⟩
theorem Ow.later {w w' : World} {B : Nat} {v : Value} {l : List UInt8} (h : Ow w B v l) (hb : Below w.heap.size w w') : Ow w' B v l := by
  obtain ⟨h1, h2 | ⟨g, cap, cur, hv, hB, hg, r⟩⟩ := h
  · exact ⟨h1, .inl h2⟩
  · exact ⟨h1, .inr ⟨g, cap, cur, hv, hB, (hb.block g (Array.getElem?_eq_some_iff.1 hg).1).trans hg, r⟩⟩
theorem Ow.block {w : World} {B : Nat} {v : Value} {l : List UInt8} (h : Ow w B v l) : ∀ g, v.ownBlock = some g → B ≤ g := by
  obtain ⟨h1, ⟨rfl, h2⟩ | ⟨g, cap, cur, rfl, hB, _⟩⟩ := h
  · intro g e; cases e
  · intro g' e; cases e; exact hB
theorem info_u8 : (Tryd.prog.info? 5).map (fun i => (i.zero, i.size, i.bytes)) = some (some (.int .u8 0), 1, 1) := by kernel_rfl
/-- Bytes are put behind them. -/
theorem wpList_apb {w : World} {ops : Array Oper} {rest : List Oper} {o : Oper} {a : Act} {Q : Exit → Act → World → Prop} (hgd : o.guard = none) (s x : Operand)
    (ho : o.op = .call { callee := .builtin .append, args := #[s, x], argTypes := #[22, 22] }) (B : Nat) (v : Value) (l : List UInt8) (hs : a.eval s = v) (hown : Ow w B v l)
    (u : Value) (m : List UInt8) (hx : a.eval x = u) (hb : BsA w u m) (hn : l.length + m.length ≤ 1000000) (hB : B ≤ w.heap.size)
    (h : ∀ v' w', Ow w' B v' (l ++ m) → w.grownBy w' v.ownBlock → wpList Tryd.prog ops Q rest (a.put o.dst v') w') : wpList Tryd.prog ops Q (o :: rest) a w := by
  refine wpList_plain hgd fun K hK => ?_
  obtain ⟨i0, hi, he⟩ := Option.map_eq_some_iff.1 info_u8
  simp only [Prod.mk.injEq] at he
  obtain ⟨hz0, hz1, hz2⟩ := he
  obtain ⟨v', w', hr, h2, h3⟩ : ∃ v' w', (Builtin.append_ #[22, 22] o.type #[v, u]).run Tryd.prog w = .ok v' w' ∧ Ow w' B v' (l ++ m) ∧ w.grownBy w' v.ownBlock := by
    obtain ⟨ad, c, rfl, hm⟩ := hb
    cases ad with
    | none =>
      obtain rfl : m = [] := by
        rcases hm with h | ⟨_, _, e, _⟩
        · exact h
        · cases e
      refine ⟨v, w, ?_, by simpa using hown, ⟨rfl, rfl, rfl, Nat.le_refl _, fun _ _ _ => rfl⟩⟩
      rcases hown.2 with ⟨rfl, _⟩ | ⟨g, cap, cur, rfl, _, _, hnc, _⟩
      · simp [Builtin.append_, run_underlying Tryd.underlying22, sizeOf, typeInfo, hi, Builtin.lenOf, Builtin.firstCells]
      · simp [Builtin.append_, run_underlying Tryd.underlying22, sizeOf, typeInfo, hi, Builtin.lenOf, Builtin.firstCells, hnc, storeCells]
    | some ad =>
      have hnews : ∀ j u, (bv m)[j]? = some u → w.cell? (ad.add j) = some u := by
        intro j u hj
        rcases hm with rfl | ⟨b, off, e, hbl, hc⟩
        · simp [bv] at hj
        · cases e
          cases hmj : m[j]? with
          | none => rw [bv, List.getElem?_map, hmj] at hj; cases hj
          | some y =>
            rw [bv, List.getElem?_map, hmj] at hj
            cases hj
            rw [Addr.add_lit]
            exact hc j y hmj
      obtain ⟨v', w', hr, h4, h5, _⟩ := run_append_own (P := Tryd.prog) w B 22 o.type 5 i0 (.int .u8 0) 1 1 Tryd.underlying22 hi hz0 hz1 hz2 rfl (by decide) v l.length (bv l) hown ad m.length c (bv m) (by simp [bv]) hnews
        (by intro u hu; simp [bv] at hu; obtain ⟨z, _, rfl⟩ := hu; rfl) (by unfold maxLen; omega) (by omega) hB
      refine ⟨v', w', hr, ?_, h5⟩
      unfold Ow
      rw [bv_app, List.length_append]
      exact h4
  unfold Oper.wp execOp
  simp only [ho, resolve, invoke, builtin, Sem.run_bind, Sem.run_pure, Result.andThen_ok, List.map_toArray, List.map_cons, List.map_nil, hs, hx, hr]
  exact hK _ _ (h v' w' h2 h3)
theorem BsA.grown {w w' : World} {u : Value} {m : List UInt8} {row : Option Nat} {B : Nat} (h : BsA w u m) (hg : w.grownBy w' row) (hr : ∀ r, row = some r → B ≤ r) (hu : ∀ a n c, u = .slice (some a) n c → a.block < B) : BsA w' u m := by
  obtain ⟨a, cap, rfl, h | ⟨b, o, rfl, hb, hc⟩⟩ := h
  · exact ⟨a, cap, rfl, .inl h⟩
  · have hbB := hu _ _ _ rfl
    refine ⟨_, cap, rfl, .inr ⟨b, o, rfl, Nat.lt_of_lt_of_le hb hg.size, fun j x hj => ?_⟩⟩
    rw [World.cell?_of_block (w := w) (hg.block b hb (fun e => by have := hr b e.symm; simp at hbB; omega))]
    exact hc j x hj
theorem below_gr {w w' : World} {row : Option Nat} {B : Nat} (hg : w.grownBy w' row) (hr : ∀ r, row = some r → B ≤ r) (hB : B ≤ w.heap.size) : Below B w w' := ⟨hg.os, hg.tape, hg.output, hg.size, fun k hk => hg.block k (by omega) (fun e => by have := hr k e.symm; omega)⟩
theorem BsA.tkA {w : World} {a : Option Addr} {n cap : Nat} {l : List UInt8} (h : BsA w (.slice a n cap) l) {k : Nat} (hk : k ≤ l.length) (c : Nat) : BsA w (.slice a k c) (l.take k) := by
  obtain ⟨a', cap', e, h⟩ := h
  cases e
  have hkl : (l.take k).length = k := by simp; omega
  refine ⟨a, c, by rw [hkl], ?_⟩
  rcases h with rfl | ⟨b, o, rfl, hb, hc⟩
  · left; simp
  · right
    refine ⟨b, o, rfl, hb, fun j x hj => hc j x ?_⟩
    rw [List.getElem?_take] at hj
    split at hj
    · exact hj
    · cases hj
set_option maxRecDepth 100000 in
theorem num_0 (w : World) : Calls Tryd.prog 6 #[.nilIface] w fun e w' => e = .returned (.int .i64 0) ∧ w' = w := by
  go_enter Tryd.func6, Tryd.ntmps6
  go_wp2
  go_ret
  exact ⟨rfl, rfl⟩
section
variable {α : Type} {one : List UInt8 → Option (α × List UInt8)} {e : UInt8}
/-- How many are read, and what they are. -/
theorem its_all {Pp : α → Prop} {N : Nat} (ho : ∀ l x r, one l = some (x, r) → l.length ≤ N → Pp x ∧ r.length ≤ l.length) : ∀ (n : Nat) {xs ys : List α} {l r : List UInt8}, its one e n xs l = some (ys, r) → l.length ≤ N → (∀ x ∈ xs, Pp x) → (∀ x ∈ ys, Pp x) ∧ ys.length ≤ xs.length + l.length + 1
  | n, xs, ys, l, r, h, hN, hx => by
    cases h1 : one l with
    | none => rw [its_non h1] at h; cases h
    | some y =>
      obtain ⟨x, q⟩ := y
      obtain ⟨a, hql⟩ := ho _ _ _ h1 hN
      have hxs : ∀ z ∈ xs ++ [x], Pp z := fun z hz => by
        rcases List.mem_append.1 hz with hz | hz
        · exact hx z hz
        · simp at hz; subst hz; exact a
      cases he : hp [e] (sk q) with
      | true =>
        rw [its_end h1 he] at h; cases h
        exact ⟨hxs, by simp⟩
      | false =>
        cases hc : hp [44] (sk q) with
        | false => rw [its_bad h1 he hc] at h; cases h
        | true =>
          cases n with
          | zero => rw [its, h1] at h; simp [he, hc] at h
          | succ n =>
            rw [its_go h1 he hc] at h
            have t1 := tk_lt hc
            have t2 := sk_le q
            obtain ⟨g1, g2⟩ := its_all ho n h (by omega) hxs
            refine ⟨g1, ?_⟩
            simp only [List.length_append, List.length_cons, List.length_nil] at g2
            omega
theorem rw_all {Pp : α → Prop} {N : Nat} {b : UInt8} (ho : ∀ l x r, one l = some (x, r) → l.length ≤ N → Pp x ∧ r.length ≤ l.length) {ys : List α} {l r : List UInt8} (h : rw' one b e l = some (ys, r)) (hN : l.length ≤ N) : (∀ x ∈ ys, Pp x) ∧ ys.length ≤ l.length + 1 := by
  unfold rw' at h
  have a := sk_le l
  have c := tk_le [b] (sk l)
  have f := sk_le (tk [b] (sk l))
  split at h
  · split at h
    · cases h; exact ⟨by simp, by simp⟩
    · obtain ⟨g1, g2⟩ := its_all ho _ h (by omega) (by simp)
      exact ⟨g1, by simp at g2; omega⟩
  · cases h
end
/-- What is read isn't high, nor wide. -/
theorem pv_hgt : ∀ (n : Nat) (l : List UInt8) (x : T) (r : List UInt8), pv n l = some (x, r) → l.length ≤ 4096 → hgt (n + 1) x
  | n, l, x, r, h, hN => by
    have a := sk_le l
    unfold pv at h
    generalize sk l = m at *
    have leaf : ∀ k i s, hgt (n + 1) (.mk k i s [] []) := fun k i s => ⟨by simp, by simp, by simp, by simp⟩
    cases m with
    | nil => cases h
    | cons b m =>
      simp only at h
      split at h
      · split at h
        · cases h; exact leaf _ _ _
        · cases h
      · split at h
        · split at h
          · cases h; exact leaf _ _ _
          · cases h
        · split at h
          · split at h
            · cases h; exact leaf _ _ _
            · cases h
          · split at h
            · split at h
              · cases h
              · cases h; exact leaf _ _ _
            · split at h
              · cases n with
                | zero => cases h
                | succ n =>
                  simp only at h
                  split at h
                  · cases h
                  · rename_i hq
                    cases h
                    obtain ⟨g1, g2⟩ := rw_all (N := 4096) (Pp := hgt (n + 1)) (fun l x r h hl => ⟨pv_hgt n l x r h hl, pv_le n l x r h⟩) hq (by omega)
                    exact ⟨by omega, by simp, g1, by simp⟩
              · split at h
                · cases n with
                  | zero => cases h
                  | succ n =>
                    simp only at h
                    split at h
                    · cases h
                    · rename_i hq
                      split at h
                      · cases h
                        obtain ⟨g1, g2⟩ := rw_all (N := 4096) (Pp := fun q : List UInt8 × T => hgt (n + 1) q.2) (fun l x r h hl => by
                          refine ⟨?_, pr_le (pv_le n) h⟩
                          unfold pr at h
                          have b1 := sk_le l
                          split at h
                          · cases h
                          · rename_i s q hq
                            have b2 := qt_le hq
                            have b3 := sk_le q
                            have b4 := tk_le [58] (sk q)
                            split at h
                            · split at h
                              · cases h
                              · rename_i v t hv
                                cases h
                                exact pv_hgt n _ _ _ hv (by omega)
                            · cases h) hq (by omega)
                        exact ⟨by simp, by omega, by simp, g1⟩
                      · cases h
                · split at h
                  · cases h
                  · cases h; exact leaf _ _ _
theorem prs_whl {l : List UInt8} (h : l.length ≤ 4096) : prsV l = whl l := by unfold prsV; rw [if_neg (by omega)]; rfl
theorem whl_hgt {l : List UInt8} {t : T} (h : whl l = some t) (hl : l.length ≤ 4096) : hgt 9 t := by
  obtain ⟨r, h1, _⟩ := whl_some.1 h
  exact pv_hgt 8 l t r h1 hl
end Go.Proofs.YtpkncanbebpknaaDoor

namespace Go.Proofs.YtpkncanbebpknaaDoor
open Go.RowKit Go.Shelf

theorem al_bl {w : World} (o : Obj) : Below w.heap.size w (w.alloc o) := (Below.refl _ _).alloc (Nat.le_refl _) _
theorem al_at (w : World) (c : Array Value) (t : TypeId) : (w.alloc (.cells c t)).heap[w.heap.size]? = some (.cells c t (0, 0)) := by
  show (w.heap.push _)[w.heap.size]? = _
  rw [Array.getElem?_push, if_pos rfl]
theorem ow_nil {w : World} : Ow (w.alloc (.cells #[] 5)) w.heap.size (.slice (some ⟨w.heap.size, 0, none⟩) 0 0) [] :=
  ⟨rfl, .inr ⟨w.heap.size, 0, #[], rfl, Nat.le_refl _, al_at w #[] 5, Nat.le_refl _, Nat.zero_le _, rfl, rfl⟩⟩
theorem bs_one {w : World} {x : UInt8} {z : Int} (h : z = (x.toNat : Nat)) : BsA (w.alloc (.cells #[.int .u8 z] 5)) (.slice (some ⟨w.heap.size, 0, none⟩) 1 1) [x] := by
  subst h
  refine ⟨_, 1, rfl, .inr ⟨w.heap.size, 0, rfl, by simp, fun j y hj => ?_⟩⟩
  have := al_at w #[.int .u8 (x.toNat : Nat)] 5
  cases j with
  | zero => cases hj; simp only [World.cell?, this]; rfl
  | succ j => simp at hj
theorem stopAt2 {p : Prop} (h : Hid p) : p := h.out
/-- A value's box. -/
def bxw (w : World) (c : Array Value) : World := (w.alloc (.cells #[.int .i64 0, .int .i64 0, .string ⟨#[]⟩, .slice none 0 0, .slice none 0 0] 29)).setRow w.heap.size c
theorem bxw_z (w : World) : (w.alloc (.cells #[.int .i64 0, .int .i64 0, .string ⟨#[]⟩, .slice none 0 0, .slice none 0 0] 29)).heap[w.heap.size]? = some (.cells #[.int .i64 0, .int .i64 0, .string ⟨#[]⟩, .slice none 0 0, .slice none 0 0] 29 (0, 0)) := by
  show (w.heap.push _)[w.heap.size]? = _
  rw [Array.getElem?_push, if_pos rfl]
theorem bxw_at (w : World) (c : Array Value) : (bxw w c).heap[w.heap.size]? = some (.cells c 29 (0, 0)) := setRow_heap _ w.heap.size _ c _ _ (bxw_z w)
theorem bxw_bl (w : World) (c : Array Value) : Below w.heap.size w (bxw w c) := ⟨rfl, rfl, rfl, by simp [bxw, World.setRow], fun k hk => (setRow_other _ _ k _ (by omega)).trans (by
  show (w.heap.push _)[k]? = _
  rw [Array.getElem?_push, if_neg (by omega)])⟩
theorem bxw_sz (w : World) (c : Array Value) : (bxw w c).heap.size = w.heap.size + 1 := by simp [bxw, World.setRow]
/-- What Parse answers of a text: this error, this value. -/
def Pz (E : Value) (t : T) (l : List UInt8) : Prop := ∀ (w : World) (v : Value), BsA w v l → Ev w → 8 ≤ w.heap.size → Calls Tryd.prog 5 #[v] w fun e w' => ∃ c : Array Value, e = .returned (.tuple #[.agg c, E]) ∧ c.size = 5 ∧ c.all (·.oneCell') = true ∧ Below w.heap.size w w' ∧ VA (w.heap.size ≤ ·) w' t c.toList
def eOf (o : Option T) : Value := match o with
  | some _ => .nilIface
  | none => .iface 37 (.int .i64 1)
def nOf (o : Option T) : Int := match o with
  | some _ => 0
  | none => 1
def tz0 : T := .mk 0 0 [] [] []
theorem pz_of {l : List UInt8} {o : Option T} (h : whl l = o) (hl : l.length ≤ 4096) : Pz (eOf o) (o.getD tz0) l := by
  intro w v hb hT h8
  refine (parse_d hb hT h8).mono ?_
  rintro e w' ⟨c, ev, rfl, h1, h2, h3, h4⟩
  rw [prs_whl hl, h] at h4
  rcases h4 with ⟨t, rfl, rfl, hv⟩ | ⟨rfl, rfl, rfl⟩
  · exact ⟨c, rfl, h1, h2, h3, hv⟩
  · refine ⟨zV, ?_, rfl, by kernel_rfl, h3, VA.leaf 0 0 []⟩
    unfold eOf prsE
    rw [if_neg (by omega)]
theorem num_of (o : Option T) (w : World) : Calls Tryd.prog 6 #[eOf o] w fun e w' => e = .returned (.int .i64 (nOf o)) ∧ w' = w := by
  cases o with
  | none => exact num_1 w
  | some t => exact num_0 w
/-- The bytes of blanks. -/
def blk (l : List UInt8) : Prop := ∀ c ∈ l, bk.contains c = true
set_option maxHeartbeats 16000000 in
set_option maxRecDepth 100000 in
theorem blanks_walk {w : World} {ba ka : Option Addr} {bcap kc : Nat} {l : List UInt8} {zs : List Int} {cut : Int} (hb : BsA w (.slice ba l.length bcap) l) (hbc : l.length ≤ bcap)
    (hz : zs = [] ∨ ∃ b o, ka = some ⟨b, o, none⟩ ∧ b < w.heap.size ∧ ∀ (j : Nat) (z : Int), zs[j]? = some z → w.cell? ⟨b, o + j, none⟩ = some (.int .i64 z)) (hT : Ev w) (h8 : 8 ≤ w.heap.size) :
    Calls Tryd.prog 3 #[.slice ba l.length bcap, .slice ka zs.length kc, .int .i64 cut] w fun e w' => e = .returned (.bool true) ∧ Below w.heap.size w w' := by
  obtain ⟨N, hN⟩ : ∃ N, Hid (N = l.length) := ⟨_, hide1 rfl⟩
  obtain ⟨M, hM⟩ : ∃ M, Hid (M = zs.length) := ⟨_, hide1 rfl⟩
  rw [← hN.out] at hb hbc ⊢
  rw [← hM.out]
  have hal := alive_j hT h8
  replace hb := hide1 hb
  replace hbc := hide1 hbc
  replace hz := hide1 hz
  replace hT := hide1 hT
  go_enter Tryd.func3, Tryd.ntmps3
  go_wp2_with fail
  refine hal.mono ?_
  rintro e w1 ⟨rfl, b1⟩
  have B1 := hide1 b1
  clear hal b1
  by_cases h1 : 2000 < N
  · go_wp2
    go_ret
    exact ⟨rfl, B1.out⟩
  by_cases h2 : 100 < M
  · go_wp2
    go_ret
    exact ⟨rfl, B1.out⟩
  have hpz := hide1 (pz_of (l := l) rfl (by have := hN.out; omega))
  have hpz2 : Hid (∀ pd : List UInt8, blk pd → pd.length ≤ 100 → Pz (eOf (whl l)) ((whl l).getD tz0) (pd ++ (l ++ pd))) := hide1 fun pd hpd hpl => pz_of (whl_pad l hpd hpd) (by have := hN.out; simp; omega)
  have hgt9 : Hid (hgt 9 ((whl l).getD tz0)) := hide1 (by
    cases hw : whl l with
    | none => exact ⟨by simp, by simp, by simp, by simp⟩
    | some t => exact whl_hgt hw (by have := hN.out; omega))
  have hnum := hide1 (num_of (whl l))
  have hcutS : Hid (∀ t, whl l = some t → ∃ q r, l = q ++ r ∧ En q ∧ blk r ∧ (4 ≤ t.kd → ∀ m, m < q.length → whl (l.take m) = none)) := hide1 fun t ht => by
    obtain ⟨q, r, g1, g2, g3, _, g5⟩ := whl_end ht
    exact ⟨q, r, g1, g2, g3, g5⟩
  obtain ⟨o, ho⟩ : ∃ o, Hid (o = whl l) := ⟨_, hide1 rfl⟩
  rw [← ho.out] at hpz hpz2 hgt9 hnum hcutS
  go_wp2_with fail
  go_loopw [7, 30] (fun s7 s30 wr => ∃ (pd : List UInt8), s30 = .int .i64 (pd.length : Nat) ∧ pd.length ≤ M ∧ Hid (blk pd) ∧ Hid (Ow wr w1.heap.size s7 pd) ∧ Hid (Below w1.heap.size w1 wr)) (fun _ x _ => M - (intOf x).toNat)
  case atStart => exact ⟨[], rfl, by simp, hide1 (by intro c hc; cases hc), hide1 ow_nil, hide1 (al_bl _)⟩
  case round =>
    rename_i s7 s30
    obtain ⟨pd, rfl, hpm, hbk, how, hbw⟩ := hrel
    by_cases hlt : pd.length < M
    · obtain ⟨z, hzi⟩ : ∃ z, zs[pd.length]? = some z := ⟨_, List.getElem?_eq_getElem (by have := hM.out; omega)⟩
      obtain ⟨b, oo, hka, hbl, hcz⟩ : ∃ b oo, ka = some ⟨b, oo, none⟩ ∧ b < w.heap.size ∧ w.cell? ⟨b, oo + pd.length, none⟩ = some (.int .i64 z) := by
        rcases hz.out with rfl | ⟨b, oo, h1, h2, h3⟩
        · simp at hzi
        · exact ⟨b, oo, h1, h2, h3 _ _ hzi⟩
      subst hka
      have cz : wr.cell? ⟨b, oo + pd.length, none⟩ = some (.int .i64 z) := by
        rw [World.cell?_of_block (w := w) (((B1.out.trans (hbw.out.mono B1.out.size))).block b hbl)]
        exact hcz
      obtain ⟨m0, hm0, e0⟩ : ∃ m0 : Nat, m0 < 4 ∧ (IntKind.u64.wrap z).tmod 4 = (m0 : Int) := by
        have h1 : 0 ≤ IntKind.u64.wrap z := by
          simp only [IntKind.wrap, IntKind.bits, IntKind.signed]
          simp
          omega
        rw [Int.tmod_eq_emod_of_nonneg h1]
        exact ⟨(IntKind.u64.wrap z % 4).toNat, by omega, by omega⟩
      clear hcz hzi
      rcases (by omega : m0 = 0 ∨ m0 = 1 ∨ m0 = 2 ∨ m0 = 3) with rfl | rfl | rfl | rfl
      · have hbk2 : Hid (blk (pd ++ [32])) := hide1 fun c hc => by
          rcases List.mem_append.1 hc with hc | hc
          · exact hbk.out c hc
          · simp at hc; subst hc; decide
        have hws := hbw.out.size
        have hpl : Hid ((pd ++ [32]).length = pd.length + 1) := hide1 (by simp)
        have e0 : (IntKind.u64.wrap z).tmod 4 = 0 := e0
        go_wp2_with (at_builtin; refine wpList_apb rfl (.tmp 34) (.tmp 40) rfl w1.heap.size _ pd rfl (how.out.later (al_bl _)) _ [32] rfl (bs_one rfl) (by simp; omega) (by simp; omega) ?_; intro v9 w9 ho9 hg9; refine stopAt2 ?_)
        refine hide1 ?_
        have hB9 : Hid (Below w1.heap.size w1 w9) := hide1 (hbw.out.trans (((al_bl _).mono hws).trans (below_gr hg9 how.out.block (by simp; omega))))
        replace ho9 := hide1 ho9
        clear hg9 how hbk e0 cz
        go_wp2
        go_roundw
        case rel => exact ⟨pd ++ [32], by rw [hpl.out]; rfl, by rw [hpl.out]; omega, hbk2, ho9, hB9⟩
        case measure => simp [intOf]; omega
      · have hbk2 : Hid (blk (pd ++ [9])) := hide1 fun c hc => by
          rcases List.mem_append.1 hc with hc | hc
          · exact hbk.out c hc
          · simp at hc; subst hc; decide
        have hws := hbw.out.size
        have hpl : Hid ((pd ++ [9]).length = pd.length + 1) := hide1 (by simp)
        have e0 : (IntKind.u64.wrap z).tmod 4 = 1 := e0
        go_wp2_with (at_builtin; refine wpList_apb rfl (.tmp 34) (.tmp 40) rfl w1.heap.size _ pd rfl (how.out.later (al_bl _)) _ [9] rfl (bs_one rfl) (by simp; omega) (by simp; omega) ?_; intro v9 w9 ho9 hg9; refine stopAt2 ?_)
        refine hide1 ?_
        have hB9 : Hid (Below w1.heap.size w1 w9) := hide1 (hbw.out.trans (((al_bl _).mono hws).trans (below_gr hg9 how.out.block (by simp; omega))))
        replace ho9 := hide1 ho9
        clear hg9 how hbk e0 cz
        go_wp2
        go_roundw
        case rel => exact ⟨pd ++ [9], by rw [hpl.out]; rfl, by rw [hpl.out]; omega, hbk2, ho9, hB9⟩
        case measure => simp [intOf]; omega
      · have hbk2 : Hid (blk (pd ++ [10])) := hide1 fun c hc => by
          rcases List.mem_append.1 hc with hc | hc
          · exact hbk.out c hc
          · simp at hc; subst hc; decide
        have hws := hbw.out.size
        have hpl : Hid ((pd ++ [10]).length = pd.length + 1) := hide1 (by simp)
        have e0 : (IntKind.u64.wrap z).tmod 4 = 2 := e0
        go_wp2_with (at_builtin; refine wpList_apb rfl (.tmp 34) (.tmp 40) rfl w1.heap.size _ pd rfl (how.out.later (al_bl _)) _ [10] rfl (bs_one rfl) (by simp; omega) (by simp; omega) ?_; intro v9 w9 ho9 hg9; refine stopAt2 ?_)
        refine hide1 ?_
        have hB9 : Hid (Below w1.heap.size w1 w9) := hide1 (hbw.out.trans (((al_bl _).mono hws).trans (below_gr hg9 how.out.block (by simp; omega))))
        replace ho9 := hide1 ho9
        clear hg9 how hbk e0 cz
        go_wp2
        go_roundw
        case rel => exact ⟨pd ++ [10], by rw [hpl.out]; rfl, by rw [hpl.out]; omega, hbk2, ho9, hB9⟩
        case measure => simp [intOf]; omega
      · have hbk2 : Hid (blk (pd ++ [13])) := hide1 fun c hc => by
          rcases List.mem_append.1 hc with hc | hc
          · exact hbk.out c hc
          · simp at hc; subst hc; decide
        have hws := hbw.out.size
        have hpl : Hid ((pd ++ [13]).length = pd.length + 1) := hide1 (by simp)
        have e0 : (IntKind.u64.wrap z).tmod 4 = 3 := e0
        go_wp2_with (at_builtin; refine wpList_apb rfl (.tmp 34) (.tmp 40) rfl w1.heap.size _ pd rfl (how.out.later (al_bl _)) _ [13] rfl (bs_one rfl) (by simp; omega) (by simp; omega) ?_; intro v9 w9 ho9 hg9; refine stopAt2 ?_)
        refine hide1 ?_
        have hB9 : Hid (Below w1.heap.size w1 w9) := hide1 (hbw.out.trans (((al_bl _).mono hws).trans (below_gr hg9 how.out.block (by simp; omega))))
        replace ho9 := hide1 ho9
        clear hg9 how hbk e0 cz
        go_wp2
        go_roundw
        case rel => exact ⟨pd ++ [13], by rw [hpl.out]; rfl, by rw [hpl.out]; omega, hbk2, ho9, hB9⟩
        case measure => simp [intOf]; omega
    · have hpM : Hid (pd.length ≤ 100) := hide1 (by omega)
      have hsw := hbw.out.size
      have hs1 := B1.out.size
      have hBr : Hid (Below w.heap.size w wr) := hide1 (B1.out.trans (hbw.out.mono hs1))
      have hbr := hide1 (hb.out.below hBr.out)
      have hTr := hide1 (hT.out.below hBr.out (by omega))
      have hpe : pd.length = M := by omega
      have hpr := hpz.out wr _ hbr.out hTr.out (by omega)
      obtain ⟨pa, pcap, hpv⟩ := how.out.slc
      subst hpv
      have hpb := hide1 how.out.bs
      replace hbw := hide1 True.intro
      clear hbw how B1 hlt hpm hz
      rw [hpe] at hpb ⊢
      replace hpe := hide1 hpe
      go_wp2_with fail
      refine hpr.mono ?_
      rintro e w2 ⟨c, rfl, hc5, hco, b2, hv2⟩
      obtain ⟨c0, c1, c2, c3, c4, rfl⟩ := arr5 hc5
      replace hAo := hide1 hco
      have hB2 := hide1 (hBr.out.trans (b2.mono hBr.out.size))
      have hpb2 := hide1 (hpb.out.below b2)
      have hbb2 := hide1 (hbr.out.below b2)
      have hsz2 := b2.size
      clear hpr hco b2 hpb hbr hBr hTr
      go_upto_region 12 with (refine wpList_store_row rfl 29 (.tmp 10) (.tmp 46) rfl w2.heap.size #[c0, c1, c2, c3, c4] rfl rfl 29 _ (bxw_z w2) (by kernel_rfl) rfl hAo.out ?_)
      have haA := bxw_at w2 #[c0, c1, c2, c3, c4]
      have hlA := bxw_bl w2 #[c0, c1, c2, c3, c4]
      have hsA := bxw_sz w2 #[c0, c1, c2, c3, c4]
      generalize hwe : bxw w2 #[c0, c1, c2, c3, c4] = wA at *
      rw [show (w2.alloc (.cells #[.int .i64 0, .int .i64 0, .string ⟨#[]⟩, .slice none 0 0, .slice none 0 0] 29)).setRow w2.heap.size #[c0, c1, c2, c3, c4] = wA from hwe]
      clear hwe
      have hBA := hide1 (hB2.out.trans (hlA.mono hB2.out.size))
      have hpbA := hide1 (hpb2.out.below hlA)
      have hbbA := hide1 (hbb2.out.below hlA)
      have hvA := hide1 (VA.frame (c := [c0, c1, c2, c3, c4]) hv2 (w' := wA) (G := fun _ => True) (fun j _ hj => hlA.block j hj) (fun _ _ _ => trivial))
      have hq2 : w2.heap.size < wA.heap.size := by omega
      have hw28 : 8 ≤ w2.heap.size := by omega
      replace haA := hide1 haA
      clear hlA hpb2 hbb2 hB2 hv2 hsA
      have hn0 := hide1 (ow_nil (w := wA))
      have g0 := hide1 (al_bl (w := wA) (.cells #[] 5))
      have hlN : Hid (l.length = N) := hide1 hN.out.symm
      have hpl := hpe.out
      have hl2k : l.length ≤ 2000 := by have := hlN.out; omega
      have hp1c : pd.length ≤ 100 := hpM.out
      replace hpl := hide1 hpl
      go_wp2_with (at_builtin; refine wpList_apb rfl (.tmp 49) (.tmp 50) rfl wA.heap.size _ [] rfl hn0.out _ pd rfl (hpbA.out.below g0.out) (by simp; omega) (by simp) ?_; intro v4 w4 ho4 hg4; refine stopAt2 ?_)
      refine hide1 ?_
      have g4 := hide1 (g0.out.trans (below_gr hg4 hn0.out.block (by simp)))
      replace ho4 := hide1 ho4
      clear hg4 hn0 g0
      have s4 := g4.out.size
      go_wp2_with (at_builtin; refine wpList_apb rfl (.tmp 51) (.tmp 52) rfl wA.heap.size _ ([] ++ pd) rfl ho4.out _ l rfl (hbbA.out.below g4.out) (by simp; omega) s4 ?_; intro v5 w5 ho5 hg5; refine stopAt2 ?_)
      refine hide1 ?_
      have g5 := hide1 (g4.out.trans (below_gr hg5 ho4.out.block s4))
      replace ho5 := hide1 ho5
      clear hg5 ho4 g4 s4
      have s5 := g5.out.size
      go_wp2_with (at_builtin; refine wpList_apb rfl (.tmp 53) (.tmp 54) rfl wA.heap.size _ ([] ++ pd ++ l) rfl ho5.out _ pd rfl (hpbA.out.below g5.out) (by simp; omega) s5 ?_; intro v6 w6 ho6 hg6; refine stopAt2 ?_)
      refine hide1 ?_
      have g6 := hide1 (g5.out.trans (below_gr hg6 ho5.out.block s5))
      have hbs6 : BsA w6 v6 (pd ++ (l ++ pd)) := by
        have := ho6.bs
        simpa using this
      clear hg6 ho5 g5 s5 ho6 hpbA
      have s6 := g6.out.size
      have hBw6 := hBA.out.trans (g6.out.mono hBA.out.size)
      have hpr := hpz2.out pd hbk.out hpM.out w6 v6 hbs6 (hT.out.below hBw6 (by omega)) (by omega)
      replace hBw6 := hide1 hBw6
      clear hbs6
      go_wp2_with fail
      refine hpr.mono ?_
      rintro e w7 ⟨d, rfl, hd5, hdo, b7, hv7⟩
      obtain ⟨d0, d1, d2, d3, d4, rfl⟩ := arr5 hd5
      replace hCo := hide1 hdo
      have g7 := hide1 (g6.out.trans (b7.mono g6.out.size))
      have hB7 := hide1 (hBw6.out.trans (b7.mono hBw6.out.size))
      have s7' := b7.size
      clear hpr hdo b7 hBw6 g6
      go_upto_region 13 with (refine wpList_store_row rfl 29 (.tmp 12) (.tmp 57) rfl w7.heap.size #[d0, d1, d2, d3, d4] rfl rfl 29 _ (bxw_z w7) (by kernel_rfl) rfl hCo.out ?_)
      have haC := bxw_at w7 #[d0, d1, d2, d3, d4]
      have hlC := bxw_bl w7 #[d0, d1, d2, d3, d4]
      have hsC := bxw_sz w7 #[d0, d1, d2, d3, d4]
      generalize hwe : bxw w7 #[d0, d1, d2, d3, d4] = wC at *
      rw [show (w7.alloc (.cells #[.int .i64 0, .int .i64 0, .string ⟨#[]⟩, .slice none 0 0, .slice none 0 0] 29)).setRow w7.heap.size #[d0, d1, d2, d3, d4] = wC from hwe]
      clear hwe
      have gC := hide1 (g7.out.trans (hlC.mono g7.out.size))
      have hBC := hide1 (hB7.out.trans (hlC.mono hB7.out.size))
      have hvC := hide1 (VA.frame (c := [d0, d1, d2, d3, d4]) hv7 (w' := wC) (G := fun _ => True) (fun j _ hj => hlC.block j hj) (fun _ _ _ => trivial))
      have hvA2 := hide1 (VA.frame (c := [c0, c1, c2, c3, c4]) hvA.out (w' := wC) (G := fun _ => True) (fun j _ hj => gC.out.block j hj) (fun _ _ _ => trivial))
      have haA2 := (gC.out.block _ hq2).trans haA.out
      have hq7 : w7.heap.size < wC.heap.size := by omega
      have hq2' : w2.heap.size < wC.heap.size := by have := gC.out.size; omega
      have hbC := hide1 (hbbA.out.below gC.out)
      have hsCw := hBC.out.size
      clear hlC hv7 hvA g7 hB7 hsC haA hbbA
      have a0 : wC.cell? ⟨w2.heap.size, 0, none⟩ = some c0 := by simp only [World.cell?, haA2]; rfl
      have a1 : wC.cell? ⟨w2.heap.size, 1, none⟩ = some c1 := by simp only [World.cell?, haA2]; rfl
      have a2 : wC.cell? ⟨w2.heap.size, 2, none⟩ = some c2 := by simp only [World.cell?, haA2]; rfl
      have a3 : wC.cell? ⟨w2.heap.size, 3, none⟩ = some c3 := by simp only [World.cell?, haA2]; rfl
      have a4 : wC.cell? ⟨w2.heap.size, 4, none⟩ = some c4 := by simp only [World.cell?, haA2]; rfl
      have k0 : wC.cell? ⟨w7.heap.size, 0, none⟩ = some d0 := by simp only [World.cell?, haC]; rfl
      have k1 : wC.cell? ⟨w7.heap.size, 1, none⟩ = some d1 := by simp only [World.cell?, haC]; rfl
      have k2 : wC.cell? ⟨w7.heap.size, 2, none⟩ = some d2 := by simp only [World.cell?, haC]; rfl
      have k3 : wC.cell? ⟨w7.heap.size, 3, none⟩ = some d3 := by simp only [World.cell?, haC]; rfl
      have k4 : wC.cell? ⟨w7.heap.size, 4, none⟩ = some d4 := by simp only [World.cell?, haC]; rfl
      have hex := ex_d 9 (c := [c0, c1, c2, c3, c4]) (c' := [d0, d1, d2, d3, d4]) hgt9.out hvA2.out hvC.out
      rw [(exB_eq (hgt_ht hgt9.out)).2 rfl] at hex
      replace hex : Calls Tryd.prog 7 #[.agg #[c0, c1, c2, c3, c4], .agg #[d0, d1, d2, d3, d4]] wC _ := hex
      replace haA2 := hide1 haA2
      replace haC := hide1 haC
      have hn1 := hnum.out wC
      generalize hEo : eOf o = E at *
      generalize nOf o = NE at *
      replace hEo := hide1 hEo
      go_wp2_with fail
      refine hn1.mono ?_
      rintro e w8 ⟨rfl, rfl⟩
      go_wp2_with fail
      refine hn1.mono ?_
      rintro e w8 ⟨rfl, rfl⟩
      clear hn1 hnum
      go_wp2_with fail
      refine hex.mono ?_
      rintro e w9 ⟨rfl, b9⟩
      have hB9 := hide1 (hBC.out.trans (b9.mono hBC.out.size))
      have ha9 := (b9.block _ hq2').trans haA2.out
      have hb9 := hide1 (hbC.out.below b9)
      have s9 := b9.size
      clear hex b9 a0 a1 a2 a3 a4 k0 k1 k2 k3 k4 gC hBC hbC hvC
      cases o with
      | none =>
        obtain rfl : E = .iface 37 (.int .i64 1) := hEo.out.symm
        go_wp2
        go_ret
        exact ⟨rfl, hB9.out⟩
      | some t =>
        obtain rfl : E = .nilIface := hEo.out.symm
        obtain ⟨tk, ti, ts, tl, tp⟩ := t
        have hc0 : c0 = .int .i64 tk := by have := hvA2.out; cases this; rfl
        subst hc0
        have a0 : w9.cell? ⟨w2.heap.size, 0, none⟩ = some (.int .i64 tk) := by simp only [World.cell?, ha9]; rfl
        clear hvA2 ha9
        by_cases hk : tk < 4
        · go_wp2
          go_ret
          exact ⟨rfl, hB9.out⟩
        · obtain ⟨q, r, hqr, hen, hbr, hno⟩ := hcutS.out _ rfl
          replace hno := hide1 (hno (by show 4 ≤ tk; omega))
          obtain ⟨q', cl, hq', hcl⟩ := hen
          obtain ⟨E0, hE0⟩ : ∃ E0, Hid (E0 = q'.length) := ⟨_, hide1 rfl⟩
          have hqE : Hid (q.length = E0 + 1) := hide1 (by rw [hq', hE0.out]; simp)
          have hNl : Hid (N = E0 + 1 + r.length) := hide1 (by rw [hN.out, hqr, List.length_append, hqE.out])
          have hE0N : E0 + 1 ≤ N := by have := hNl.out; omega
          obtain ⟨bb, bo, hba, hbbl, hbcell⟩ : ∃ b o, ba = some ⟨b, o, none⟩ ∧ b < w9.heap.size ∧ ∀ (j : Nat) (x : UInt8), l[j]? = some x → w9.cell? ⟨b, o + j, none⟩ = some (.int .u8 (x.toNat : Nat)) := by
            obtain ⟨a, cap, e1, e2⟩ := hb9.out
            cases e1
            rcases e2 with e2 | ⟨b, o, e3, e4, e5⟩
            · rw [e2] at hE0N; simp at hE0N
            · exact ⟨b, o, e3, e4, e5⟩
          subst hba
          replace hbcell := hide1 hbcell
          replace hqr := hide1 hqr
          replace hq' := hide1 hq'
          replace hcl := hide1 hcl
          replace hbr := hide1 hbr
          clear hcutS hbbl
          go_wp2_with fail
          go_loopw [14] (fun s14 wr => ∃ e : Nat, s14 = .int .i64 (e : Nat) ∧ E0 ≤ e ∧ e < N ∧ wr = w9) (fun s14 _ => (intOf s14).toNat)
          case atStart => exact ⟨N - 1, by congr 1; omega, by omega, by omega, rfl⟩
          case round =>
            obtain ⟨e, rfl, he1, he2, rfl⟩ := hrel
            obtain ⟨x, hx⟩ : ∃ x, l[e]? = some x := ⟨_, List.getElem?_eq_getElem (by have := hN.out; omega)⟩
            have cx := hbcell.out e x hx
            have hx2 := x.toNat_lt
            by_cases hlt : E0 < e
            · have hxb : bk.contains x = true := by
                have h5 := hx
                rw [hqr.out, List.getElem?_append_right (by have := hqE.out; omega)] at h5
                exact hbr.out x (List.mem_of_getElem? h5)
              have hx4 : x = 32 ∨ x = 9 ∨ x = 10 ∨ x = 13 := by simpa [bk] using hxb
              have hep : (0 : Int) < (e : Int) := by omega
              clear hx hxb
              rcases hx4 with rfl | rfl | rfl | rfl
              · replace cx : wr.cell? ⟨bb, bo + e, none⟩ = some (.int .u8 32) := cx
                clear hx2
                go_wp2
                go_roundw
                case rel => exact ⟨e - 1, by congr 1; omega, by omega, by omega, by first | rfl | trivial⟩
                case measure => simp [intOf]; omega
              · have n32 : ((9 : Int) == 32) = false := rfl
                replace cx : wr.cell? ⟨bb, bo + e, none⟩ = some (.int .u8 9) := cx
                clear hx2
                go_wp2
                go_roundw
                case rel => exact ⟨e - 1, by congr 1; omega, by omega, by omega, by first | rfl | trivial⟩
                case measure => simp [intOf]; omega
              · have n32 : ((10 : Int) == 32) = false := rfl
                have n9 : ((10 : Int) == 9) = false := rfl
                replace cx : wr.cell? ⟨bb, bo + e, none⟩ = some (.int .u8 10) := cx
                clear hx2
                go_wp2
                go_roundw
                case rel => exact ⟨e - 1, by congr 1; omega, by omega, by omega, by first | rfl | trivial⟩
                case measure => simp [intOf]; omega
              · have n32 : ((13 : Int) == 32) = false := rfl
                have n9 : ((13 : Int) == 9) = false := rfl
                have n10 : ((13 : Int) == 10) = false := rfl
                replace cx : wr.cell? ⟨bb, bo + e, none⟩ = some (.int .u8 13) := cx
                clear hx2
                go_wp2
                go_roundw
                case rel => exact ⟨e - 1, by congr 1; omega, by omega, by omega, by first | rfl | trivial⟩
                case measure => simp [intOf]; omega
            · have hee : e = E0 := by omega
              subst hee
              obtain ⟨m, hm, em⟩ : ∃ m : Nat, m < e + 1 ∧ (IntKind.u64.wrap cut).tmod ((e : Int) + 1) = (m : Int) := by
                have h1 : 0 ≤ IntKind.u64.wrap cut := by
                  simp only [IntKind.wrap, IntKind.bits, IntKind.signed]
                  simp
                  omega
                rw [Int.tmod_eq_emod_of_nonneg h1]
                have h2 := Int.emod_nonneg (IntKind.u64.wrap cut) (show (e : Int) + 1 ≠ 0 by omega)
                have h3 := Int.emod_lt_of_pos (IntKind.u64.wrap cut) (show 0 < (e : Int) + 1 by omega)
                exact ⟨(IntKind.u64.wrap cut % ((e : Int) + 1)).toNat, by omega, by omega⟩
              have hwm := hno.out m (by have := hqE.out; omega)
              have hbm := hb9.out.tkA (k := m) (by have := hN.out; omega) bcap
              have hpm := pz_of (l := l.take m) hwm (by simp; omega) wr _ hbm (hT.out.below hB9.out (by omega)) (by omega)
              have hmc : m ≤ bcap := by have := hbc.out; omega
              clear hwm hbm hno
              have fin : Hid (∀ (w10 : World) (cc : Array Value), Below wr.heap.size wr w10 → Below w.heap.size w (bxw w10 cc)) := hide1 fun w10 cc b10 => (hB9.out.trans (b10.mono hB9.out.size)).trans ((bxw_bl w10 cc).mono (by have := hB9.out.size; have := b10.size; omega))
              have hxe : l[e]? = some cl := by
                rw [hqr.out, hq'.out, List.append_assoc, List.getElem?_append_right (by have := hE0.out; omega)]
                have : e - q'.length = 0 := by have := hE0.out; omega
                rw [this]; rfl
              obtain rfl : x = cl := Option.some.inj (hx.symm.trans hxe)
              have hnb : x.toNat ≠ 32 ∧ x.toNat ≠ 9 ∧ x.toNat ≠ 10 ∧ x.toNat ≠ 13 := by
                have h6 := hcl.out
                refine ⟨fun h => ?_, fun h => ?_, fun h => ?_, fun h => ?_⟩
                · rw [show x = 32 from UInt8.toNat_inj.1 h] at h6; cases h6
                · rw [show x = 9 from UInt8.toNat_inj.1 h] at h6; cases h6
                · rw [show x = 10 from UInt8.toNat_inj.1 h] at h6; cases h6
                · rw [show x = 13 from UInt8.toNat_inj.1 h] at h6; cases h6
              have n32 : ((x.toNat : Int) == 32) = false := by simp; omega
              have n9 : ((x.toNat : Int) == 9) = false := by simp; omega
              have n10 : ((x.toNat : Int) == 10) = false := by simp; omega
              have n13 : ((x.toNat : Int) == 13) = false := by simp; omega
              clear hxe hx hnb hcl hbr hqr hq' hlt
              replace hpm : Calls Tryd.prog 5 _ wr fun e w' => ∃ c : Array Value, e = .returned (.tuple #[.agg c, .iface 37 (.int .i64 1)]) ∧ c.size = 5 ∧ c.all (·.oneCell') = true ∧ Below wr.heap.size wr w' ∧ _ := hpm
              by_cases hz0 : e = 0
              · have hep : ¬ (0 : Int) < (e : Int) := by omega
                clear hz0
                go_wp2_with fail
                refine hpm.mono ?_
                rintro e' w10 ⟨cc, rfl, hcc5, hcco, b10, -⟩
                obtain ⟨f0, f1, f2, f3, f4, rfl⟩ := arr5 hcc5
                have hfin := hide1 (fin.out w10 #[f0, f1, f2, f3, f4] b10)
                have hfo := hide1 hcco
                clear hpm b10 hcco fin
                go_upto_region 21 with (refine wpList_store_row rfl 29 (.tmp 15) (.tmp 123) rfl w10.heap.size #[f0, f1, f2, f3, f4] rfl rfl 29 _ (bxw_z w10) (by kernel_rfl) rfl hfo.out ?_)
                go_wp2_with fail
                refine (is_1 _).mono ?_
                rintro e'' w11 ⟨rfl, rfl⟩
                go_wp2
                go_ret
                exact ⟨rfl, hfin.out⟩
              · have hep : (0 : Int) < (e : Int) := by omega
                clear hz0
                go_wp2_with fail
                refine hpm.mono ?_
                rintro e' w10 ⟨cc, rfl, hcc5, hcco, b10, -⟩
                obtain ⟨f0, f1, f2, f3, f4, rfl⟩ := arr5 hcc5
                have hfin := hide1 (fin.out w10 #[f0, f1, f2, f3, f4] b10)
                have hfo := hide1 hcco
                clear hpm b10 hcco fin
                go_upto_region 21 with (refine wpList_store_row rfl 29 (.tmp 15) (.tmp 123) rfl w10.heap.size #[f0, f1, f2, f3, f4] rfl rfl 29 _ (bxw_z w10) (by kernel_rfl) rfl hfo.out ?_)
                go_wp2_with fail
                refine (is_1 _).mono ?_
                rintro e'' w11 ⟨rfl, rfl⟩
                go_wp2
                go_ret
                exact ⟨rfl, hfin.out⟩
end Go.Proofs.YtpkncanbebpknaaDoor

namespace Go.Proofs.YtpkncanbebpknaaDoor
open Go.ChangeShapes Go.WideShapes Go.ChangeAt Go.RowKit
section
variable {H : Type} {enc : TypeId × Value → H} {W : World} {held : Bool}
theorem ints_inA {k : IntKind} {t e : TypeId} {a : Option Addr} {len cap fuel : Nat} {x : DataW H × List MemPlace} (ht : Tryd.prog.underlying t = some (.slice e)) (he : Tryd.prog.underlying e = some (.int k)) (hc : Tryd.prog.cellsOf e = 1)
    (h : DataW.trod enc Tryd.prog W 0 (fun _ => true) held fuel t [.slice a len cap] = some x) : ∃ zs : List Int, zs.length = len ∧ len ≤ cap ∧ (∀ z ∈ zs, (Lit.int k z).wf = true) ∧ (zs = [] ∨ ∃ b o, a = some ⟨b, o, none⟩ ∧ b < W.heap.size ∧ ∀ (j : Nat) (z : Int), zs[j]? = some z → W.cell? ⟨b, o + j, none⟩ = some (.int k z)) := by
  rcases open_ints ht he hc h with ⟨hcs, _⟩ | ⟨x, l, c, zs, hcs, _, hl, hm, hz, _, hcell, hwz⟩
  · cases hcs
    exact ⟨[], rfl, Nat.le_refl _, by simp, .inl rfl⟩
  · cases hcs
    simp only [if_true] at hz
    refine ⟨zs.take len, by simp; omega, hl, fun z h => hwz z (List.mem_of_mem_take h), ?_⟩
    rcases Nat.eq_zero_or_pos len with rfl | hp
    · left; simp
    · right
      obtain ⟨b, off, spot⟩ := x
      have hc0 := hcell 0 (by omega)
      have hspot : spot = none := by simpa [Addr.add] using World.cell?_spot hc0
      subst hspot
      refine ⟨b, off, rfl, ?_, fun j z hj => ?_⟩
      · rcases Nat.lt_or_ge b W.heap.size with h' | h'
        · exact h'
        · rw [Addr.add_lit] at hc0; simp [World.cell?, Array.getElem?_eq_none h'] at hc0
      · rw [List.getElem?_take] at hj
        split at hj
        · rename_i hjl
          have := hcell j (by omega)
          rw [Addr.add_lit] at this
          rw [this, List.getD_eq_getElem?_getD, hj]; rfl
        · cases hj
theorem bytes_inA {a : Option Addr} {len cap fuel : Nat} {x : DataW H × List MemPlace} (h : DataW.trod enc Tryd.prog W 0 (fun _ => true) held fuel 22 [.slice a len cap] = some x) : ∃ l : List UInt8, len = l.length ∧ len ≤ cap ∧ BsA W (.slice a l.length cap) l := by
  obtain ⟨zs, h1, h2, h3, h4⟩ := ints_inA Tryd.underlying22 Tryd.underlying5 (by kernel_rfl) h
  have hw : ∀ z ∈ zs, ((UInt8.ofNat z.toNat).toNat : Int) = z := fun z hz => by
    have := h3 z hz
    simp only [Lit.wf, Bool.and_eq_true, decide_eq_true_eq] at this
    have e1 : IntKind.u8.min = 0 := rfl
    have e2 : IntKind.u8.max = 255 := rfl
    rw [e1, e2] at this
    have h5 : z.toNat < 256 := by omega
    have : (UInt8.ofNat z.toNat).toNat = z.toNat := by simp; omega
    omega
  refine ⟨zs.map fun z => UInt8.ofNat z.toNat, by simp [h1], h2, ?_⟩
  refine ⟨a, cap, by simp, ?_⟩
  rcases h4 with rfl | ⟨b, o, rfl, hb, hc⟩
  · left; rfl
  · right
    refine ⟨b, o, rfl, hb, fun j y hj => ?_⟩
    rw [List.getElem?_map] at hj
    cases hz : zs[j]? with
    | none => rw [hz] at hj; cases hj
    | some z =>
      rw [hz] at hj
      cases hj
      rw [hc j z hz, hw z (List.mem_of_getElem? hz)]
end
end Go.Proofs.YtpkncanbebpknaaDoor

namespace Go.Proofs.YtpkncanbebpknaaDoor
open Go.Shelf
def lays260_ren : Go.Shelf.Ren := ⟨fun | 260 => 57 | n => n, fun | 9 => 9 | 21 => 21 | 3 => 3 | 4 => 4 | 5 => 5 | 119 => 101 | 0 => 0 | 46 => 25 | 139 => 104 | 138 => 103 | n => n, fun | 3 => 0 | 4 => 1 | n => n⟩
theorem lays260 : Go.Proofs.Lays.n260 Tryd.prog lays260_ren := {
  mixed := by kernel_rfl
  f260 := Tryd.func57.trans (congrArg some (by kernel_rfl))
  t0 := Tryd.underlying0
  a0 := Tryd.isAgg0
  z0 := Tryd.sizeOf0
  v0 := Tryd.zeroValue0
  t3 := Tryd.underlying3
  a3 := Tryd.isAgg3
  z3 := Tryd.sizeOf3
  v3 := Tryd.zeroValue3
  t4 := Tryd.underlying4
  a4 := Tryd.isAgg4
  z4 := Tryd.sizeOf4
  v4 := Tryd.zeroValue4
  t5 := Tryd.underlying5
  a5 := Tryd.isAgg5
  z5 := Tryd.sizeOf5
  v5 := Tryd.zeroValue5
  t9 := Tryd.underlying9
  a9 := Tryd.isAgg9
  z9 := Tryd.sizeOf9
  v9 := Tryd.zeroValue9
  t21 := Tryd.underlying21
  a21 := Tryd.isAgg21
  z21 := Tryd.sizeOf21
  v21 := Tryd.zeroValue21
  t46 := Tryd.underlying25
  a46 := Tryd.isAgg25
  z46 := Tryd.sizeOf25
  v46 := Tryd.zeroValue25
  t119 := Tryd.underlying101
  a119 := Tryd.isAgg101
  z119 := Tryd.sizeOf101
  t138 := Tryd.underlying103
  a138 := Tryd.isAgg103
  z138 := Tryd.sizeOf103
  v138 := Tryd.zeroValue103
  t139 := Tryd.underlying104
  a139 := Tryd.isAgg104
  z139 := Tryd.sizeOf104
  v139 := Tryd.zeroValue104
  g3 := by kernel_rfl
  g4 := by kernel_rfl }
open Go.RowKit Go.Lib in
theorem utf8_slow (s : ByteArray) (w : World) (hT : Lib.Utf8Tabs 0 1 w) :
    Calls Tryd.prog 57 #[.string s] w fun e w' => e = .returned (.tuple #[.int .i32 (Lib.decodeGo s).1, .int .i64 (Lib.decodeGo s).2]) ∧ Below w.heap.size w w' := Any.utf8_decodeRuneInStringSlow lays260 s w hT
end Go.Proofs.YtpkncanbebpknaaDoor

namespace Go.Proofs.YtpkncanbebpknaaDoor
open Go.ChangeShapes Go.WideShapes Go.ChangeAt Go.RowKit

def laidJ : List (String × DataW Unit) := [("math/bits.deBruijn32tab", Rows.laid_math_bits_deBruijn32tab), ("math/bits.deBruijn64tab", Rows.laid_math_bits_deBruijn64tab), ("internal/strconv.uint64pow10", Rows.laid_internal_strconv_uint64pow10), ("unicode/utf8.acceptRanges", Rows.laid_unicode_utf8_acceptRanges), ("strconv.ErrRange", Rows.laid_strconv_ErrRange), ("strconv.ErrSyntax", Rows.laid_strconv_ErrSyntax), ("unicode/utf8.first", Rows.laid_unicode_utf8_first)]
theorem acc_L : (Rows.laid_unicode_utf8_acceptRanges : DataW Unit) = Lib.acceptData := by kernel_rfl
theorem pow_L : (Rows.laid_internal_strconv_uint64pow10 : DataW Unit) = Lib.tabData .u64 Lib.pow10Tab := by kernel_rfl
theorem fst_L : Rows.laid_unicode_utf8_first = Lib.firstData := Pinned.utf8First_eq
/-- A variable that holds an error. -/
theorem err_cell {W : World} {n nm : String} {d : DataW Unit} {g : Nat} {t : TypeId} {ms : Array (String × TypeId)} (hg : Tryd.prog.globalNamed n = some g) (ht : (Tryd.prog.globals[g]?).map (·.type) = some t) (hi : Tryd.prog.underlying t = some (.interface ms))
    (h : Lib.VarReads Tryd.prog W n (.iface nm d)) : ∃ te pe, W.cell? ⟨g, 0, none⟩ = some (.iface te pe) := by
  obtain ⟨g', t', cs, fuel, p, hg', hty, hvar, hd⟩ := h
  obtain rfl := Option.some.inj (hg.symm.trans hg')
  obtain rfl := Option.some.inj (ht.symm.trans hty)
  obtain ⟨f1, u, v, e, hn, h1⟩ := iface_of_trod hi hd
  refine ⟨u, v, ?_⟩
  rw [World.var?_cell hg hvar 0, ← Array.getElem?_toList, e]
  rfl
theorem of_laidJ {W : World} (h : laidMetH Tryd.prog laidJ W) : Ev W ∧ 8 ≤ W.heap.size := by
  rw [MakeChecks.laidMetH_plain _ _ _ (by kernel_rfl)] at h
  have r1 : Lib.VarReads Tryd.prog W "unicode/utf8.first" Lib.firstData := fst_L ▸ Lib.laidMet.reads h (by simp [laidJ])
  have r2 : Lib.VarReads Tryd.prog W "unicode/utf8.acceptRanges" Lib.acceptData := acc_L ▸ Lib.laidMet.reads h (by simp [laidJ])
  have r3 : Lib.VarReads Tryd.prog W "internal/strconv.uint64pow10" (Lib.tabData .u64 Lib.pow10Tab) := pow_L ▸ Lib.laidMet.reads h (by simp [laidJ])
  have r4 : Lib.VarReads Tryd.prog W "strconv.ErrSyntax" Rows.laid_strconv_ErrSyntax := Lib.laidMet.reads h (by simp [laidJ])
  have r5 : Lib.VarReads Tryd.prog W "strconv.ErrRange" Rows.laid_strconv_ErrRange := Lib.laidMet.reads h (by simp [laidJ])
  have r6 : Lib.VarReads Tryd.prog W "math/bits.deBruijn64tab" Rows.laid_math_bits_deBruijn64tab := Lib.laidMet.reads h (by simp [laidJ])
  refine ⟨⟨utf8Tabs_of_reads lays260 ⟨by kernel_rfl, by kernel_rfl, by kernel_rfl, by kernel_rfl, by kernel_rfl, by kernel_rfl, by kernel_rfl⟩ r1 r2, ?_, ?_, ?_⟩, ?_⟩
  · obtain ⟨g, t, cs, fuel, p, hg, hty, hvar, hd⟩ := r3
    have e1 : Tryd.prog.globalNamed "internal/strconv.uint64pow10" = some 5 := by kernel_rfl
    obtain rfl := Option.some.inj (e1.symm.trans hg)
    have e2 : (Tryd.prog.globals[5]?).map (·.type) = some 129 := by kernel_rfl
    obtain rfl := Option.some.inj (e2.symm.trans hty)
    unfold Lib.TabIs
    rw [hvar, ← Lib.cells_of_tab Tryd.underlying129 Tryd.underlying109 (by kernel_rfl) (by kernel_rfl) hd]
  · exact err_cell (by kernel_rfl) (by kernel_rfl) Tryd.underlying31 r4
  · exact err_cell (by kernel_rfl) (by kernel_rfl) Tryd.underlying31 r5
  · obtain ⟨g, t, cs, fuel, p, hg, hty, hvar, hd⟩ := r6
    have e1 : Tryd.prog.globalNamed "math/bits.deBruijn64tab" = some 7 := by kernel_rfl
    obtain rfl := Option.some.inj (e1.symm.trans hg)
    unfold World.var? at hvar
    rw [hg] at hvar
    simp only [Option.bind_some] at hvar
    rcases Nat.lt_or_ge 7 W.heap.size with h' | h'
    · exact h'
    · rw [Array.getElem?_eq_none h'] at hvar; cases hvar
theorem laid_metJ (os : Os) (args : Array Value) : laidMetH Tryd.prog laidJ ((World.laidAll Tryd.prog os laidJ).forCall (fun _ _ => 0) ⟨#[], args, []⟩).memory := by
  rw [MakeChecks.laidMetH_plain _ _ _ (by kernel_rfl)]
  exact laidMet_laidAll _ (by kernel_rfl) (by kernel_rfl)
theorem st_of (s : ByteArray) : st s.data.toList = s := by cases s; simp [st]
end Go.Proofs.YtpkncanbebpknaaDoor

/- LRoot, PR1, PR2, PR3, PR4, PR5, PRv, PR6, PR7, PJn, LA5, LA6, LA7, LA8, LA9, LSums, LAs, PR8, PR9, PR10, PR11, PCm, PR12, PRM, PB1, PB2, TRp, LAb, LAc, LAd, PRL, PRK, TRa, PRf: laid together. -/
import Derived.RangeFuncNested
import Derived.RangeFuncBound
import Derived.RangeFuncCalls
import Derived.RangeFuncLeaves
import Derived.RangeFuncBox
import Derived.Shelf.Abstract
import Derived.Shelf.RegionOpen
import Derived.WalkKit
import Derived.OwnWalkIn
import Derived.TacticsInMore
import Derived.LoopNIn
import Derived.LoopIn
import Derived.Shelf.SlicesQ.Reverse
import Derived.ProofKit
import Derived.OpenShut
import Derived.LaidMore
import Derived.Stop.Joined
import Derived.ShutString
import Derived.ChangeOld
import Derived.Below
import Derived.Deep.Slices
import Derived.Maps.OwnSet
import Derived.Test.YtdofoampjlebbaaDoorG4
namespace Go.Proofs.YtdofoampjlebbaaDoor
open Go.RowKit Go.Maps Sh

set_option maxHeartbeats 4000000 in
theorem root_r_0 {a0 : Option Addr} {cap : Nat} {W0 : World} {E0 : Nat → Nat} (hem : ∀ w, KW (wd W0) w → Calls Tryd.prog 37 #[.slice none 0 0] w fun e w' => e = .returned (.agg (ab 32 E0)) ∧ Below w.heap.size w w') : Calls Tryd.prog 21 #[.slice a0 0 cap] W0 fun e w' => e = .returned (.agg (ab 32 E0)) ∧ Below W0.heap.size W0 w' := by
  refine s_in Tryd.func21 Tryd.ntmps21 rfl [.inl (.slice a0 0 cap)] ?_
  intro β a h
  refine sym_seq ?_
  refine St.rg h [(2, .inr (0, pt 0))] [(ab 32 (fun _ => 0), 27)] [] [eN 0] ?_ ?_
  · exact oc (k_al 0 alS rfl rfl) <|
    ok_nil
  clear h; intro β a w h
  refine sym_then ?_
  refine sym_seq ?_
  refine sym_seq ?_
  refine St.r0 h [(4, .inl (.slice a0 0 cap)), (5, .inl (.int .i64 ((0 : Nat) : Int))), (6, .inl (.bool true))] [] ?_ ?_
  · exact oz (k_mv (.inl rfl) rfl) <|
    oz (k_ln (ad := a0) 0 cap rfl rfl (fun w => len_ss _ w)) <|
    oz (k_bi (.int .i64 ((0 : Nat) : Int)) (.int .i64 ((0 : Nat) : Int)) (.bool true) (eq_i (m := ((0 : Nat) : Int)) (n := ((0 : Nat) : Int)) (decide_eq_true (by omega))) rfl rfl) <|
    ok_nil
  clear h; intro β a w h
  refine sym_then ?_
  refine s_ct h ?_
  refine sym_seq ?_
  refine St.rg h [(7, .inl (.agg (ab 32 E0)))] [] [(0, ab 32 E0)] [nn, eS 0] ?_ ?_
  · exact oc (k_cw 37 #[.slice none 0 0] (.agg (ab 32 E0)) (fun w hw => hem w hw) rfl rfl) <|
    oc (k_st 0 0 (.agg (ab 32 E0)) (c := ab 32 (fun _ => 0)) (n := ab 32 E0) (stS (F := E0) (c := ab 32 (fun _ => 0)) 27 (ab_size _ _)) rfl rfl) <|
    ok_nil
  clear h; intro β a w h
  refine sym_then ?_
  refine wp_ret ?_
  refine then_ret ?_
  exact s_rc (b := 0) (t0 := 27) (c := ab 32 E0) h Tryd.results21 Tryd.underlying27 (fun hb => ⟨rfl, hb⟩) (by rw [ab_size]; kernel_rfl)
set_option maxHeartbeats 4000000 in
theorem root_r_1 {b off cap : Nat} {W0 : World} {L0 : Nat → Nat} (ld0 : ∀ w, KW (wd W0) w → (Instr.loadAt 27 (.pointer (some ⟨b, off + 32 * 0, none⟩))).run Tryd.prog w = .ok (.agg (ab 32 L0)) w) : Calls Tryd.prog 21 #[.slice (some ⟨b, off, none⟩) 1 cap] W0 fun e w' => e = .returned (.agg (ab 32 L0)) ∧ Below W0.heap.size W0 w' := by
  refine s_in Tryd.func21 Tryd.ntmps21 rfl [.inl (.slice (some ⟨b, off, none⟩) 1 cap)] ?_
  intro β a h
  refine sym_seq ?_
  refine St.rg h [(2, .inr (0, pt 0))] [(ab 32 (fun _ => 0), 27)] [] [eN 0] ?_ ?_
  · exact oc (k_al 0 alS rfl rfl) <|
    ok_nil
  clear h; intro β a w h
  refine sym_then ?_
  refine sym_seq ?_
  refine sym_seq ?_
  refine St.r0 h [(4, .inl (.slice (some ⟨b, off, none⟩) 1 cap)), (5, .inl (.int .i64 ((1 : Nat) : Int))), (6, .inl (.bool false))] [] ?_ ?_
  · exact oz (k_mv (.inl rfl) rfl) <|
    oz (k_ln (ad := (some ⟨b, off, none⟩)) 1 cap rfl rfl (fun w => len_ss _ w)) <|
    oz (k_bi (.int .i64 ((1 : Nat) : Int)) (.int .i64 ((0 : Nat) : Int)) (.bool false) (eq_i (m := ((1 : Nat) : Int)) (n := ((0 : Nat) : Int)) (decide_eq_false (by omega))) rfl rfl) <|
    ok_nil
  clear h; intro β a w h
  refine sym_then ?_
  refine s_cf h ?_
  refine wp_skip ?_
  refine sym_then ?_
  refine sym_seq ?_
  refine sym_seq ?_
  refine St.r0 h [(8, .inl (.slice (some ⟨b, off, none⟩) 1 cap)), (9, .inl (.int .i64 ((1 : Nat) : Int))), (10, .inl (.bool true))] [] ?_ ?_
  · exact oz (k_mv (.inl rfl) rfl) <|
    oz (k_ln (ad := (some ⟨b, off, none⟩)) 1 cap rfl rfl (fun w => len_ss _ w)) <|
    oz (k_bi (.int .i64 ((1 : Nat) : Int)) (.int .i64 ((1 : Nat) : Int)) (.bool true) (eq_i (m := ((1 : Nat) : Int)) (n := ((1 : Nat) : Int)) (decide_eq_true (by omega))) rfl rfl) <|
    ok_nil
  clear h; intro β a w h
  refine sym_then ?_
  refine s_ct h ?_
  refine sym_seq ?_
  refine St.rg h [(11, .inl (.slice (some ⟨b, off, none⟩) 1 cap)), (12, .inl (.pointer (some ⟨b, off + 32 * 0, none⟩))), (13, .inl (.agg (ab 32 L0)))] [] [(0, ab 32 L0)] [nn, nn, nn, eS 0] ?_ ?_
  · exact oc (k_mv (.inl rfl) rfl) <|
    oc (k_is (.slice (some ⟨b, off, none⟩) 1 cap) (.int .i64 ((0 : Nat) : Int)) (.pointer (some ⟨b, off + 32 * 0, none⟩)) (fun w => ix_ss (i := 0) (by omega) w) rfl rfl) <|
    oc (k_lf (.pointer (some ⟨b, off + 32 * 0, none⟩)) (.agg (ab 32 L0)) (fun w hw => ld0 w hw) rfl rfl) <|
    oc (k_st 0 0 (.agg (ab 32 L0)) (c := ab 32 (fun _ => 0)) (n := ab 32 L0) (stS (F := L0) (c := ab 32 (fun _ => 0)) 27 (ab_size _ _)) rfl rfl) <|
    ok_nil
  clear h; intro β a w h
  refine sym_then ?_
  refine wp_ret ?_
  refine then_ret ?_
  exact s_rc (b := 0) (t0 := 27) (c := ab 32 L0) h Tryd.results21 Tryd.underlying27 (fun hb => ⟨rfl, hb⟩) (by rw [ab_size]; kernel_rfl)
set_option maxHeartbeats 4000000 in
theorem root_r_2 {b off n cap : Nat} {W0 : World} {Rlo Rhi : Nat → Nat} (hn : 2 ≤ n) (hm : n ≤ 1000000) (hcap : n ≤ cap) (hk : 1 ≤ cut n ∧ cut n < n ∧ n ≤ 2 * cut n)
    (hlo : ∀ w, KW (wd W0) w → Calls Tryd.prog 21 #[.slice (some ⟨b, off, none⟩) (cut n) cap] w fun e w' => e = .returned (.agg (ab 32 Rlo)) ∧ Below w.heap.size w w')
    (hhi : ∀ w, KW (wd W0) w → Calls Tryd.prog 21 #[.slice (some ⟨b, off + 32 * cut n, none⟩) (n - cut n) (cap - cut n)] w fun e w' => e = .returned (.agg (ab 32 Rhi)) ∧ Below w.heap.size w w')
    (hnd : ∀ w, KW (wd W0) w → Calls Tryd.prog 39 #[.agg (ab 32 Rlo), .agg (ab 32 Rhi)] w fun e w' => e = .returned (.agg (ab 32 (nd Rlo Rhi))) ∧ Below w.heap.size w w') : Calls Tryd.prog 21 #[.slice (some ⟨b, off, none⟩) n cap] W0 fun e w' => e = .returned (.agg (ab 32 (nd Rlo Rhi))) ∧ Below W0.heap.size W0 w' := by
  obtain ⟨hk1, hk2, hk3⟩ := hk
  refine s_in Tryd.func21 Tryd.ntmps21 rfl [.inl (.slice (some ⟨b, off, none⟩) n cap)] ?_
  intro β a h
  refine sym_seq ?_
  refine St.rg h [(2, .inr (0, pt 0))] [(ab 32 (fun _ => 0), 27)] [] [eN 0] ?_ ?_
  · exact oc (k_al 0 alS rfl rfl) <|
    ok_nil
  clear h; intro β a w h
  refine sym_then ?_
  refine sym_seq ?_
  refine sym_seq ?_
  refine St.r0 h [(4, .inl (.slice (some ⟨b, off, none⟩) n cap)), (5, .inl (.int .i64 ((n : Nat) : Int))), (6, .inl (.bool false))] [] ?_ ?_
  · exact oz (k_mv (.inl rfl) rfl) <|
    oz (k_ln (ad := (some ⟨b, off, none⟩)) n cap rfl rfl (fun w => len_ss _ w)) <|
    oz (k_bi (.int .i64 ((n : Nat) : Int)) (.int .i64 ((0 : Nat) : Int)) (.bool false) (eq_i (m := ((n : Nat) : Int)) (n := ((0 : Nat) : Int)) (decide_eq_false (by omega))) rfl rfl) <|
    ok_nil
  clear h; intro β a w h
  refine sym_then ?_
  refine s_cf h ?_
  refine wp_skip ?_
  refine sym_then ?_
  refine sym_seq ?_
  refine sym_seq ?_
  refine St.r0 h [(8, .inl (.slice (some ⟨b, off, none⟩) n cap)), (9, .inl (.int .i64 ((n : Nat) : Int))), (10, .inl (.bool false))] [] ?_ ?_
  · exact oz (k_mv (.inl rfl) rfl) <|
    oz (k_ln (ad := (some ⟨b, off, none⟩)) n cap rfl rfl (fun w => len_ss _ w)) <|
    oz (k_bi (.int .i64 ((n : Nat) : Int)) (.int .i64 ((1 : Nat) : Int)) (.bool false) (eq_i (m := ((n : Nat) : Int)) (n := ((1 : Nat) : Int)) (decide_eq_false (by omega))) rfl rfl) <|
    ok_nil
  clear h; intro β a w h
  refine sym_then ?_
  refine s_cf h ?_
  refine wp_skip ?_
  refine sym_then ?_
  refine sym_seq ?_
  refine St.r0 h [(14, .inl (.slice (some ⟨b, off, none⟩) n cap)), (15, .inl (.int .i64 ((n : Nat) : Int))), (16, .inl (.int .i64 (((cut n) : Nat) : Int))), (3, .inl (.int .i64 (((cut n) : Nat) : Int)))] [] ?_ ?_
  · exact oz (k_mv (.inl rfl) rfl) <|
    oz (k_ln (ad := (some ⟨b, off, none⟩)) n cap rfl rfl (fun w => len_ss _ w)) <|
    oz (k_ca 38 #[.int .i64 ((n : Nat) : Int)] (.int .i64 (((cut n) : Nat) : Int)) (fun w => cut_kr n (by omega) w) rfl rfl) <|
    oz (k_mv (.inr rfl) rfl) <|
    ok_nil
  clear h; intro β a w h
  refine sym_then ?_
  refine sym_seq ?_
  refine St.rg h [(17, .inl (.slice (some ⟨b, off, none⟩) n cap)), (18, .inl (.int .i64 (((cut n) : Nat) : Int))), (19, .inl (.slice (some ⟨b, off, none⟩) (cut n) cap)), (20, .inl (.agg (ab 32 Rlo))), (21, .inl (.slice (some ⟨b, off, none⟩) n cap)), (22, .inl (.int .i64 (((cut n) : Nat) : Int))), (23, .inl (.slice (some ⟨b, off + 32 * (cut n), none⟩) (n - (cut n)) (cap - (cut n)))), (24, .inl (.agg (ab 32 Rhi))), (25, .inl (.agg (ab 32 (nd Rlo Rhi))))] [] [(0, ab 32 (nd Rlo Rhi))] [nn, nn, nn, nn, nn, nn, nn, nn, nn, eS 0] ?_ ?_
  · exact oc (k_mv (.inl rfl) rfl) <|
    oc (k_mv (.inl rfl) rfl) <|
    oc (k_sw (.slice (some ⟨b, off, none⟩) n cap) (.slice (some ⟨b, off, none⟩) (cut n) cap) none (some (.int .i64 (((cut n) : Nat) : Int))) (sl_lo (by omega) hcap) rfl rfl) <|
    oc (k_cw 21 #[.slice (some ⟨b, off, none⟩) (cut n) cap] (.agg (ab 32 Rlo)) (fun w hw => hlo w hw) rfl rfl) <|
    oc (k_mv (.inl rfl) rfl) <|
    oc (k_mv (.inl rfl) rfl) <|
    oc (k_sw (.slice (some ⟨b, off, none⟩) n cap) (.slice (some ⟨b, off + 32 * (cut n), none⟩) (n - (cut n)) (cap - (cut n))) (some (.int .i64 (((cut n) : Nat) : Int))) none (sl_hi (by omega) hcap) rfl rfl) <|
    oc (k_cw 21 #[.slice (some ⟨b, off + 32 * (cut n), none⟩) (n - (cut n)) (cap - (cut n))] (.agg (ab 32 Rhi)) (fun w hw => hhi w hw) rfl rfl) <|
    oc (k_cw 39 #[.agg (ab 32 Rlo), .agg (ab 32 Rhi)] (.agg (ab 32 (nd Rlo Rhi))) (fun w hw => hnd w hw) rfl rfl) <|
    oc (k_st 0 0 (.agg (ab 32 (nd Rlo Rhi))) (c := ab 32 (fun _ => 0)) (n := ab 32 (nd Rlo Rhi)) (stS (F := (nd Rlo Rhi)) (c := ab 32 (fun _ => 0)) 27 (ab_size _ _)) rfl rfl) <|
    ok_nil
  clear h; intro β a w h
  refine sym_then ?_
  refine wp_ret ?_
  exact s_rc (b := 0) (t0 := 27) (c := ab 32 (nd Rlo Rhi)) h Tryd.results21 Tryd.underlying27 (fun hb => ⟨rfl, hb⟩) (by rw [ab_size]; kernel_rfl)
theorem root_r : ∀ (n : Nat) (L : List (Nat → Nat)) (a : Option Addr) (cap : Nat) (W0 : World), L.length = n → n ≤ 1000000 → SsAt W0 a L → n ≤ cap → Calls Tryd.prog 21 #[.slice a n cap] W0 fun e w' => e = .returned (.agg (ab 32 (root L))) ∧ Below W0.heap.size W0 w' := by
  intro n
  induction n using Nat.strongRecOn with
  | ind n ih =>
    intro L a cap W0 hL hm hs hcap
    rcases Nat.lt_or_ge n 2 with h2 | h2
    · rcases Nat.lt_or_ge n 1 with h1 | h1
      · obtain rfl : n = 0 := by omega
        obtain rfl := List.eq_nil_of_length_eq_zero hL
        rw [root_0]
        exact root_r_0 (fun w hw => refShort_d (f := fun _ => 0) ⟨fun _ => (by decide : 0 < 256), fun h => absurd h (by omega)⟩ (by omega))
      · obtain rfl : n = 1 := by omega
        obtain ⟨b, off, rfl, hc⟩ := hs.2 (by omega)
        obtain ⟨x, rfl⟩ : ∃ x, L = [x] := List.length_eq_one_iff.1 hL
        rw [root_1]
        exact root_r_1 (fun w hw => ld_ss (i := 0) (hs.later hw.below) (by simp))
    · obtain ⟨b, off, rfl, hc⟩ := hs.2 (by omega)
      have hk := cut_in h2
      have l1 : (L.take (cut n)).length = cut n := by rw [List.length_take]; omega
      have l2 : (L.drop (cut n)).length = n - cut n := by rw [List.length_drop]; omega
      have b1 := root_lt _ (L.take (cut n)) rfl (fun F hF => hs.1 F (List.mem_of_mem_take hF))
      have b2 := root_lt _ (L.drop (cut n)) rfl (fun F hF => hs.1 F (List.mem_of_mem_drop hF))
      rw [root_n (by omega), hL]
      exact root_r_2 h2 hm hcap hk (fun w hw => ih (cut n) hk.2.1 (L.take (cut n)) _ cap w l1 (by omega) (hs.lo.later hw.below) (by omega))
        (fun w hw => ih (n - cut n) (by omega) (L.drop (cut n)) _ (cap - cut n) w l2 (by omega) (hs.hi.later hw.below) (by omega))
        (fun w hw => node_r b1 b2)
end Go.Proofs.YtdofoampjlebbaaDoor

namespace Go.Proofs.YtdofoampjlebbaaDoor
open Go.RowKit Go.Shelf Sh
attribute [local go_sem] Oper.semAt_some

/-- Where a part is cut: its beginning, the cut, its end, and whether the way goes on to the right. -/
structure Cu where
  f : Nat
  a : Nat
  e : Nat
  r : Bool
  deriving Inhabited
def cv (c : Cu) : Value := .agg #[.int .i64 ((c.f : Nat) : Int), .int .i64 ((c.a : Nat) : Int), .int .i64 ((c.e : Nat) : Int), .bool c.r]
def wayN : Nat → Nat → Nat → Nat → List Cu
  | 0, _, _, _ => []
  | k + 1, i, f, e => if e ≤ f + 1 then [] else ⟨f, f + cut (e - f), e, decide (f + cut (e - f) ≤ i)⟩ :: (if f + cut (e - f) ≤ i then wayN k i (f + cut (e - f)) e else wayN k i f (f + cut (e - f)))
/-- The cuts on the way to leaf i of n, the whole row's first. -/
def way (i n : Nat) : List Cu := wayN n i 0 n
theorem wayN_0 {q i f e : Nat} (h : e ≤ f + 1) : wayN q i f e = [] := by
  cases q with
  | zero => rfl
  | succ q => unfold wayN; rw [if_pos h]
theorem wayN_s {q i f e : Nat} (h : f + 1 < e) : wayN (q + 1) i f e = ⟨f, f + cut (e - f), e, decide (f + cut (e - f) ≤ i)⟩ :: (if f + cut (e - f) ≤ i then wayN q i (f + cut (e - f)) e else wayN q i f (f + cut (e - f))) := by
  conv => lhs; unfold wayN
  rw [if_neg (by omega)]

section
variable {P : Nat → Prop} {I : Nat → World → Prop} {Ix : Code → Nat → World → Prop} {B : Nat}
/-- The loop's record and the block of the rounds' deferred calls stand. -/
def Bk (B : Nat) (r : Loop) (W : World) : Prop := W.heap[B + 1]? = some (.loop r) ∧ W.heap[B]? = some (.deferred (some []))
theorem Bk.grown {r : Loop} {W W' : World} {row : Option Nat} (h : Bk B r W) (hg : W.grownBy W' row) (hr : ∀ x, row = some x → B + 2 ≤ x) : Bk B r W' :=
  ⟨(hg.block _ (Array.getElem?_eq_some_iff.1 h.1).1 (fun e => by have := hr _ e.symm; omega)).trans h.1, (hg.block _ (Array.getElem?_eq_some_iff.1 h.2).1 (fun e => by have := hr _ e.symm; omega)).trans h.2⟩
theorem Bk.put {r : Loop} {W : World} (h : Bk B r W) (r' : Loop) : Bk B r' (W.putObj (B + 1) (.loop r')) :=
  ⟨World.putObj_heap_same (Array.getElem?_eq_some_iff.1 h.1).1, (World.putObj_heap_other (by omega)).trans h.2⟩
end

end Go.Proofs.YtdofoampjlebbaaDoor

namespace Go.Proofs.YtdofoampjlebbaaDoor
open Go.RowKit Go.Shelf Sh
attribute [local go_sem] Oper.semAt_some

def Bx (W : World) (p : Nat) (t : TypeId) (v : Value) : Prop := W.heap[p]? = some (.cells #[v] t (0, 0))
theorem Bx.cell {W : World} {p t : Nat} {v : Value} (h : Bx W p t v) : W.cell? ⟨p, 0, none⟩ = some v := by simp [World.cell?, show W.heap[p]? = _ from h]
theorem Bx.lt {W : World} {p t : Nat} {v : Value} (h : Bx W p t v) : p < W.heap.size := (Array.getElem?_eq_some_iff.1 h).1
theorem Bx.later {W W' : World} {p t : Nat} {v : Value} (h : Bx W p t v) (hb : Below W.heap.size W W') : Bx W' p t v := (hb.block p h.lt).trans h
end Go.Proofs.YtdofoampjlebbaaDoor

namespace Go.Proofs.YtdofoampjlebbaaDoor
open Go.RowKit Go.Shelf Sh
attribute [local go_sem] Oper.semAt_some

theorem below_done {w W : World} {D : Nat} {o o' : Obj} (h : Below w.heap.size w W) (hD : w.heap.size ≤ D) (ho : W.heap[D]? = some o) : Below w.heap.size w (W.putObj D o') :=
  h.trans ((Below.refl _ W).grown (grownBy_putObj' W D o') (by have := (Array.getElem?_eq_some_iff.1 ho).1; omega) (fun k e => by cases e; exact hD))

theorem wayN_le : ∀ q i f e, (wayN q i f e).length ≤ q
  | 0, _, _, _ => Nat.le_refl _
  | q + 1, i, f, e => by
    unfold wayN
    split
    · simp
    · have h1 := wayN_le q i (f + cut (e - f)) e
      have h2 := wayN_le q i f (f + cut (e - f))
      split <;> simp <;> omega
theorem way_le (i n : Nat) : (way i n).length ≤ n := wayN_le _ _ _ _
/-- Where Length has no answer. -/
def badR (i n : Int) : Prop := n < 1 ∨ 1048576 < n ∨ i < 0 ∨ n ≤ i
/-- Where the part begins to which a way leads. -/
def stF (xs : List Cu) : Nat := xs.foldl (fun s c => if c.r then c.a else s) 0
end Go.Proofs.YtdofoampjlebbaaDoor

namespace Go.Proofs.YtdofoampjlebbaaDoor
open Go.RowKit Go.Shelf Sh
attribute [local go_sem] Oper.semAt_some

theorem tw_end {α : Type} {p : α → Bool} : ∀ {xs : List α} {k : Nat} (hk : k < xs.length), k ≤ (xs.takeWhile p).length → p xs[k] = false → k = (xs.takeWhile p).length
  | [], _, hk, _, _ => by simp at hk
  | x :: xs, 0, _, _, h => by
    have h : p x = false := h
    rw [List.takeWhile_cons, h]; rfl
  | x :: xs, k + 1, hk, hl, h => by
    rw [List.takeWhile_cons] at hl ⊢
    cases hp : p x with
    | false => rw [hp] at hl; simp at hl
    | true =>
      rw [hp] at hl
      simp only [if_true, List.length_cons] at hl ⊢
      have := tw_end (p := p) (xs := xs) (k := k) (by simpa using hk) (by omega) (by simpa using h)
      omega
theorem tw_on {α : Type} {p : α → Bool} : ∀ {xs : List α} {k : Nat} (hk : k < xs.length), k ≤ (xs.takeWhile p).length → p xs[k] = true → ∃ h : k < (xs.takeWhile p).length, (xs.takeWhile p)[k] = xs[k]
  | [], _, hk, _, _ => by simp at hk
  | x :: xs, 0, _, _, h => by
    have h : p x = true := h
    have e : (x :: xs).takeWhile p = x :: xs.takeWhile p := by rw [List.takeWhile_cons, h]; rfl
    exact ⟨by rw [e]; simp, by simp only [e]; rfl⟩
  | x :: xs, k + 1, hk, hl, h => by
    cases hp : p x with
    | false => rw [List.takeWhile_cons, hp] at hl; simp at hl
    | true =>
      have e : (x :: xs).takeWhile p = x :: xs.takeWhile p := by rw [List.takeWhile_cons, hp]; rfl
      rw [e] at hl
      obtain ⟨h1, h2⟩ := tw_on (p := p) (xs := xs) (k := k) (by simpa using hk) (by simpa using hl) (by simpa using h)
      exact ⟨by rw [e]; simpa using h1, by simp only [e, List.getElem_cons_succ]; exact h2⟩
/-- The cuts on the way to the greatest part that ends with the first m. -/
def aheadL (m n : Nat) : List Cu := (way (m - 1) n).takeWhile fun c => !(c.e == m)
theorem roundIn_any {m n l l2 : Nat} {f : FuncId} {tmps : Array Value} {assign body : Code} {w : World} {R : Ending → World → Prop} (h : RoundIn Fence.wide m Tryd.prog l f tmps assign body w R) : RoundIn (Fence.wide.inRound l2) n Tryd.prog l f tmps assign body w R :=
  ⟨h.1, fun c cs _ => h.2 c cs (fun d hd => by cases hd)⟩

end Go.Proofs.YtdofoampjlebbaaDoor

namespace Go.Proofs.YtdofoampjlebbaaDoor
open Go.RowKit Go.Shelf Sh
attribute [local go_sem] Oper.semAt_some

/-- The cells of a row of cuts. -/
def cc (c : Cu) : List Value := [.int .i64 ((c.f : Nat) : Int), .int .i64 ((c.a : Nat) : Int), .int .i64 ((c.e : Nat) : Int), .bool c.r]
def ccv (L : List Cu) : List Value := L.flatMap cc
theorem ccv_len : ∀ L : List Cu, (ccv L).length = L.length * 4
  | [] => rfl
  | c :: r => by show (cc c ++ ccv r).length = _; rw [List.length_append, ccv_len r, List.length_cons]; show 4 + _ = _; omega
theorem ccv_get : ∀ (L : List Cu) (i j : Nat) (h : i < L.length), j < 4 → (ccv L)[4 * i + j]? = (cc L[i])[j]?
  | c :: r, 0, j, h, hj => by
    show (cc c ++ ccv r)[4 * 0 + j]? = _
    rw [List.getElem?_append_left (by show _ < 4; omega), show 4 * 0 + j = j by omega]; rfl
  | c :: r, i + 1, j, h, hj => by
    show (cc c ++ ccv r)[4 * (i + 1) + j]? = _
    rw [List.getElem?_append_right (by show 4 ≤ _; omega)]
    show (ccv r)[4 * (i + 1) + j - 4]? = _
    rw [show 4 * (i + 1) + j - 4 = 4 * i + j by omega, ccv_get r i j (by simpa using h) hj]; rfl
theorem ccv_snoc (L : List Cu) (c : Cu) : ccv (L ++ [c]) = ccv L ++ cc c := by simp [ccv]
theorem cc_one (c : Cu) : ∀ v ∈ cc c, v.oneCell' = true := by
  intro v hv
  simp only [cc, List.mem_cons, List.not_mem_nil, or_false] at hv
  rcases hv with rfl | rfl | rfl | rfl <;> rfl
theorem bl3 {n : Nat} {w w1 w2 : World} (h : Below n w w1) (k : Below n w1 w2) : Below n w w2 := h.trans k
end Go.Proofs.YtdofoampjlebbaaDoor

namespace Go.Proofs.YtdofoampjlebbaaDoor
end Go.Proofs.YtdofoampjlebbaaDoor

namespace Go.Proofs.YtdofoampjlebbaaDoor
open Go.RowKit Go.Shelf Go.Sort Go.Lib Sh

theorem put_heap {w : World} {g m : Nat} {d : Array Cu} {c : Array Value} {t : TypeId} (hg : w.heap[g]? = some (.cells c t (0, 0))) : ∃ c', (putRowK cc 4 (Sort.ahead w m) g 0 d).heap[g]? = some (.cells c' t (0, 0)) := by
  refine ⟨putCells id 0 (flatK cc 4 d) c, ?_⟩
  show (w.heap.modify g _)[g]? = _
  rw [Array.getElem?_modify, if_pos rfl, hg]
  rfl
theorem below_put {n : Nat} {w w1 : World} {g : Nat} {m : Nat} {d : Array Cu} (h : Below n w w1) (hn : n ≤ w.heap.size) (hg : n ≤ g) : Below n w (putRowK cc 4 (Sort.ahead w1 m) g 0 d) := by
  refine h.trans ((Below.refl _ w1).grown (row := some g) ⟨rfl, rfl, rfl, by simp [putRowK, putRow, mapBlock, Sort.ahead], fun k _ hk => ?_⟩ (Nat.le_trans hn h.size) (fun k e => by cases e; exact hg))
  show (w1.heap.modify g _)[k]? = _
  rw [Array.getElem?_modify, if_neg (fun e => hk (by rw [e]))]
end Go.Proofs.YtdofoampjlebbaaDoor

namespace Go.Proofs.YtdofoampjlebbaaDoor
open Go.RowKit Go.Maps Sh

def ccA (f a e : Nat) (r : Bool) : Array Value := #[.int .i64 ((f : Nat) : Int), .int .i64 ((a : Nat) : Int), .int .i64 ((e : Nat) : Int), .bool r]
theorem ld_cr {t0 : TypeId} {f a e : Nat} {r : Bool} (w : World) (q : Nat) (h : w.heap[q]? = some (.cells (ccA f a e r) t0 (0, 0))) : (Instr.loadAt 4 (.pointer (some ⟨q, 3, none⟩))).run Tryd.prog w = .ok (.bool r) w := by
  have h1 : w.cell? ⟨q, 3, none⟩ = some (.bool r) := by rw [cell_of_row _ _ _ _ _ _ h]; rfl
  simp [Instr.loadAt, Instr.sureAddr, go_sem, h1]
/-- The digest of both parts: of that in which the way goes on, and of that which it leaves aside. -/
def jn (r : Bool) (F G : Nat → Nat) : Nat → Nat := if r then nd G F else nd F G
theorem nd_lt (F G : Nat → Nat) : ∀ i, nd F G i < 256 := dg_lt _ _
theorem jn_lt (r : Bool) (F G : Nat → Nat) : ∀ i, jn r F G i < 256 := by unfold jn; split <;> exact nd_lt _ _
end Go.Proofs.YtdofoampjlebbaaDoor

namespace Go.Proofs.YtdofoampjlebbaaDoor
end Go.Proofs.YtdofoampjlebbaaDoor

namespace Go.Proofs.YtdofoampjlebbaaDoor
open Go.ChangeShapes Go.WideShapes Go.ChangeAt Go.RowKit Sh

def eqD (F G : Nat → Nat) : Bool := (List.range 32).all fun i => F i == G i
theorem eqD_iff {F G : Nat → Nat} : eqD F G = true ↔ ∀ i, i < 32 → F i = G i := by
  unfold eqD
  rw [List.all_eq_true]
  constructor
  · intro h i hi
    exact beq_iff_eq.1 (h i (List.mem_range.2 hi))
  · intro h i hi
    exact beq_iff_eq.2 (h i (List.mem_range.1 hi))
section
variable {x u : Operand}
set_option maxRecDepth 100000 in
theorem eqS_run (F G : Nat → Nat) (w : World) : (Op.equalIn 10000 27 (.agg (ab 32 F)) (.agg (ab 32 G))).run Tryd.prog w = .ok (eqD F G) w := by
  have h1 := eq_ints (P := Tryd.prog) (t := 27) (e := 5) (n := 32) (k := .u8) (k' := .u8) Tryd.underlying27 (inf := _) rfl (by kernel_rfl) Tryd.underlying5 (fun _ => by kernel_rfl) (ab 32 F) (ab 32 G) (fun i => (F i : Int)) (fun i => (G i : Int)) (fun i hi => arr_get _ _ _ hi) (fun i hi => arr_get _ _ _ hi) w
  rw [h1]
  congr 1
  rw [Bool.eq_iff_iff, eqD_iff, decide_eq_true_eq]
  constructor <;> intro hh i hi <;> have := hh i hi <;> omega
theorem eqS (F G : Nat → Nat) (w : World) : (do eqGuard .eql 27 x u (.agg (ab 32 F)) (.agg (ab 32 G)); binOp .eql 27 (.agg (ab 32 F)) (.agg (ab 32 G))).run Tryd.prog w = .ok (.bool (eqD F G)) w := by
  simp [eqGuard, binOp, go_sem, Op.equal, Op.maxDepth, eqS_run F G w]
theorem neS (F G : Nat → Nat) (w : World) : (do eqGuard .neq 27 x u (.agg (ab 32 F)) (.agg (ab 32 G)); binOp .neq 27 (.agg (ab 32 F)) (.agg (ab 32 G))).run Tryd.prog w = .ok (.bool (!eqD F G)) w := by
  simp [eqGuard, binOp, go_sem, Op.equal, Op.maxDepth, eqS_run F G w]
theorem eqS_t {F G : Nat → Nat} (h : ∀ i, i < 32 → F i = G i) (w : World) : (do eqGuard .eql 27 x u (.agg (ab 32 F)) (.agg (ab 32 G)); binOp .eql 27 (.agg (ab 32 F)) (.agg (ab 32 G))).run Tryd.prog w = .ok (.bool true) w := by
  rw [eqS, eqD_iff.2 h]
theorem eqB_t {m n : Nat} (h : m = n) (w : World) : (do eqGuard .eql 5 x u (.int .u8 ((m : Nat) : Int)) (.int .u8 ((n : Nat) : Int)); binOp .eql 5 (.int .u8 ((m : Nat) : Int)) (.int .u8 ((n : Nat) : Int))).run Tryd.prog w = .ok (.bool true) w := by
  subst h
  simp [eqGuard, binOp, go_sem]
end
theorem ld_abv {t0 : TypeId} {N i v : Nat} {F : Nat → Nat} (hi : i < N) (hv : F i = v) (w : World) (q : Nat) (h : w.heap[q]? = some (.cells (ab N F) t0 (0, 0))) : (Instr.loadAt 5 (.pointer (some ⟨q, i, none⟩))).run Tryd.prog w = .ok (.int .u8 ((v : Nat) : Int)) w := by
  have h1 : w.cell? ⟨q, i, none⟩ = some (.int .u8 ((v : Nat) : Int)) := by rw [cell_of_row _ _ _ _ _ _ h, ← hv]; exact arr_get _ _ _ hi
  simp [Instr.loadAt, Instr.sureAddr, go_sem, h1]
/-! The tables. -/
def laidL : List (String × DataW Unit) := [("cachet/sum.cubes", Rows.laid_cachet_sum_cubes), ("cachet/sum.squares", Rows.laid_cachet_sum_squares)]
theorem gCubes : Tryd.prog.globalNamed "cachet/sum.cubes" = some 3 := by kernel_rfl
theorem gSquares : Tryd.prog.globalNamed "cachet/sum.squares" = some 2 := by kernel_rfl
theorem tCubes : (Tryd.prog.globals[3]?).map (·.type) = some 106 := by kernel_rfl
theorem tSquares : (Tryd.prog.globals[2]?).map (·.type) = some 100 := by kernel_rfl
/-- A row of words that reads as it was laid. -/
theorem row_cells {W : World} {fuel n t : Nat} {cs : List Value} {ns : List Nat} {ps : List MemPlace} {base : Nat} {sp : Nat → Bool} {held : Bool} {enc : TypeId × Value → Unit} (ht : Tryd.prog.underlying t = some (.array n 82)) (h : DataW.trod enc Tryd.prog W base sp held fuel t cs = some (.agg (ns.map fun k => .lit (.int .u64 ((k : Nat) : Int))), ps)) (hn : ns.length = n) :
    ∀ i, i < n → cs[i]? = some (.int .u64 ((ns.getD i 0 : Nat) : Int)) := by
  obtain ⟨xs, m, rfl, hx, hlen, hxs, hel⟩ := DataW.trod_array ht h
  have c1 : Tryd.prog.cellsOf 82 = 1 := by kernel_rfl
  intro i hi
  have h1 := hel i hi
  rw [c1, Nat.mul_one] at h1
  simp only [Prod.mk.injEq, DataW.agg.injEq] at hx
  have hxi : xs[i]? = some xs[i] := List.getElem?_eq_getElem (by omega)
  rw [hxi] at h1
  obtain ⟨k, e1, e2, _⟩ := DataW.trod_int Tryd.underlying82 h1
  have h3 := congrArg (·[i]?) hx.1
  simp only [List.getElem?_map] at h3
  rw [hxi, List.getElem?_eq_getElem (l := ns) (show i < ns.length by omega)] at h3
  simp only [Option.map_some, Option.some.injEq] at h3
  rw [e2] at h3
  have h4 : ((ns[i] : Nat) : Int) = k := by simpa using h3
  have h5 : cs[i]? = (cs.drop i)[0]? := by simp
  have h6 : ((cs.drop i).take 1)[0]? = (cs.drop i)[0]? := by rw [List.getElem?_take]; simp
  rw [h5, ← h6, e1, List.getD_eq_getElem?_getD, List.getElem?_eq_getElem (l := ns) (show i < ns.length by omega), Option.getD_some, h4]
  rfl
theorem cubes_L : (Rows.laid_cachet_sum_cubes : DataW Unit) = .agg (cuL.map fun k => .lit (.int .u64 ((k : Nat) : Int))) := by kernel_rfl
theorem squares_L : (Rows.laid_cachet_sum_squares : DataW Unit) = .agg (sqL.map fun k => .lit (.int .u64 ((k : Nat) : Int))) := by kernel_rfl
theorem of_laid {W : World} (h : laidMetH Tryd.prog laidL W) : Gl W := by
  rw [MakeChecks.laidMetH_plain _ _ _ (by kernel_rfl)] at h
  obtain ⟨ps, ⟨g0, t0, cs0, f0, p0, q0, hg0, ht0, hv0, hd0, ⟨g1, t1, cs1, f1, p1, q1, hg1, ht1, hv1, hd1, _, _⟩, _⟩, _, _⟩ := h
  obtain rfl := Option.some.inj (gCubes.symm.trans hg0)
  obtain rfl := Option.some.inj (gSquares.symm.trans hg1)
  obtain rfl := Option.some.inj (tCubes.symm.trans ht0)
  obtain rfl := Option.some.inj (tSquares.symm.trans ht1)
  rw [cubes_L] at hd0
  rw [squares_L] at hd1
  refine ⟨fun i hi => ?_, fun i hi => ?_⟩
  · rw [World.var?_cell hg1 hv1 i, ← Array.getElem?_toList]
    exact row_cells Tryd.underlying100 hd1 (by kernel_rfl) i hi
  · rw [World.var?_cell hg0 hv0 i, ← Array.getElem?_toList]
    exact row_cells Tryd.underlying106 hd0 (by kernel_rfl) i hi
theorem door_met (os : Os) (args : Array Value) : laidMetH Tryd.prog laidL ((World.doorLaid Tryd.prog 400 os).forCall (fun _ _ => 0) ⟨#[], args, []⟩).memory :=
  laidMetH_of_parts3 (fuel := 8) (laidMet_of_run' 8 (by kernel_rfl) (by kernel_rfl)) (by kernel_rfl) (by kernel_rfl)
end Go.Proofs.YtdofoampjlebbaaDoor

namespace Go.Proofs.YtdofoampjlebbaaDoor
open Go.RowKit Go.Maps Sh

def numsF (len : Nat) (f : Nat → Nat) : List Int := (List.range len).map fun i => ((f i : Nat) : Int)
/-- Bytes as a text. -/
theorem conv_f {w : World} {a : Option Addr} {len : Nat} {f : Nat → Nat} (h : Bs w a len f) (cap : Nat) : (convert 71 9 (.slice a len cap)).run Tryd.prog w = .ok (.string (strOfNums (numsF len f))) w := by
  rcases Nat.eq_zero_or_pos len with rfl | hp
  · cases a with
    | none => exact run_convert_bytes_nil w 71 5 Tryd.underlying71 Tryd.underlying5 0 cap 9 Tryd.underlying9
    | some x =>
      rw [run_convert_bytes_string w 71 9 5 _ 0 cap Tryd.underlying71 Tryd.underlying5 Tryd.underlying9, run_bytesToString w x 0 cap [] (run_loadCells_list (P := Tryd.prog) w x [] (fun j v hj => by simp at hj))]
      rfl
  · obtain ⟨b, off, rfl, hc⟩ := h.2 hp
    refine run_convert_bytes_arg w 71 5 Tryd.underlying71 Tryd.underlying5 b off len cap (numsF len f) (by simp [numsF]) (fun j hj => ?_) 9 Tryd.underlying9
    rw [hc j hj]
    simp [numsF, List.getD_eq_getElem?_getD, hj]
theorem nums_cong {len : Nat} {f g : Nat → Nat} (h : ∀ i, i < len → f i = g i) : numsF len f = numsF len g := by
  unfold numsF
  exact List.map_congr_left fun i hi => by rw [h i (List.mem_range.1 hi)]
/-- What a copy holds, with its marks. -/
def cpM (f : Nat → Nat) (len i : Nat) : Nat := if i < len then f i else if i = len then 165 else 90
theorem bs_2 (w : World) : Bs (w.alloc (.cells #[.int .u8 165, .int .u8 90] 5)) (some ⟨w.heap.size, 0, none⟩) 2 (fun i => if i = 0 then 165 else 90) :=
  ⟨fun i => by dsimp only; split <;> omega, fun _ => ⟨_, 0, rfl, fun i hi => by
    have h := (MapKept.heap_alloc w (.cells #[.int .u8 165, .int .u8 90] 5)).1
    rw [cell_of_row _ _ _ _ _ _ h]
    have hc : i = 0 ∨ i = 1 := by omega
    rcases hc with rfl | rfl <;> rfl⟩⟩
end Go.Proofs.YtdofoampjlebbaaDoor

namespace Go.Proofs.YtdofoampjlebbaaDoor
open Go.RowKit Go.Maps Sh

theorem gt_s {x u : Operand} {m n : Int} {b : Bool} (h : decide (n < m) = b) (w : World) : (do eqGuard .gtr 3 x u (.int .i64 m) (.int .i64 n); binOp .gtr 3 (.int .i64 m) (.int .i64 n)).run Tryd.prog w = .ok (.bool b) w := by
  subst h; simp [eqGuard, binOp, go_sem]
theorem bs_c {w : World} {c : Array Value} {q len : Nat} {f : Nat → Nat} {t : TypeId} (hf : ∀ i, f i < 256) (hq : w.heap[q]? = some (.cells c t (0, 0))) (hc : ∀ i, i < len + 2 → c[i]? = some (.int .u8 ((cpM f len i : Nat) : Int))) : Bs w (some ⟨q, 0, none⟩) len f :=
  ⟨hf, fun _ => ⟨q, 0, rfl, fun i hi => by
    rw [cell_of_row _ _ _ _ _ _ hq]
    show c[0 + i]? = _
    rw [Nat.zero_add, hc i (by omega)]
    unfold cpM
    rw [if_pos hi]⟩⟩
end Go.Proofs.YtdofoampjlebbaaDoor

namespace Go.Proofs.YtdofoampjlebbaaDoor
open Go.ChangeShapes Go.WideShapes Go.ChangeAt Go.RowKit Sh

theorem bs_zs {w : World} {x : Addr} {len : Nat} {zs : List Int} (hl : len ≤ zs.length) (hcell : ∀ i, i < zs.length → w.cell? (x.add i) = some (.int .u8 (zs.getD i 0))) (hwz : ∀ n ∈ zs, (Lit.int .u8 n).wf = true) : ∃ f, Bs w (some x) len f := by
  have hby : ∀ i, i < zs.length → 0 ≤ zs.getD i 0 ∧ zs.getD i 0 < 256 := by
    intro i hi
    have hm : zs.getD i 0 ∈ zs := by rw [List.getD_eq_getElem?_getD, List.getElem?_eq_getElem hi]; exact List.getElem_mem hi
    have := hwz _ hm
    simp only [Lit.wf, Bool.and_eq_true, decide_eq_true_eq] at this
    have e1 : IntKind.u8.min = 0 := rfl
    have e2 : IntKind.u8.max = 255 := rfl
    omega
  refine ⟨fun i => (zs.getD i 0).toNat % 256, fun i => Nat.mod_lt _ (by omega), fun hp => ?_⟩
  obtain ⟨b, off, spot⟩ := x
  have hc := hcell 0 (by omega)
  have hspot : spot = none := by simpa [Addr.add] using World.cell?_spot hc
  subst hspot
  refine ⟨b, off, rfl, fun i hi => ?_⟩
  have h1 := hcell i (by omega)
  rw [Addr.add_lit] at h1
  rw [h1]
  show _ = some (Value.int .u8 (((zs.getD i 0).toNat % 256 : Nat) : Int))
  have h2 := hby i (by omega)
  generalize zs.getD i 0 = z at *
  have h3 : ((z.toNat % 256 : Nat) : Int) = z := by omega
  rw [h3]
theorem ck_ab (b : Nat → Nat) : ck b = ab 32 b := rfl
section
variable {H : Type} {enc : TypeId × Value → H} {W : World} {held : Bool}
/-- Bytes. -/
theorem bytes_in {a : Option Addr} {len cap : Nat} {d : DataW H} {p : List MemPlace} (h : DataW.Trod enc Tryd.prog W 0 (fun _ => true) held 71 (.slice a len cap) d p) : ∃ f, Bs W a len f ∧ len ≤ cap ∧ ∀ x, a = some x → 0 < len → x.block < W.heap.size := by
  obtain ⟨fuel, hf⟩ := h
  rcases open_ints Tryd.underlying71 Tryd.underlying5 (by kernel_rfl) hf with ⟨hcs, _⟩ | ⟨x, l, c, zs, hcs, _, hl, hm, hz, _, hcell, hwz⟩
  · simp [Value.cells] at hcs
    obtain ⟨rfl, rfl, rfl⟩ := hcs
    exact ⟨fun _ => 0, ⟨fun _ => (by decide : 0 < 256), fun h => absurd h (by omega)⟩, Nat.le_refl _, fun x e => by cases e⟩
  · simp [Value.cells] at hcs
    obtain ⟨rfl, rfl, rfl⟩ := hcs
    obtain ⟨f, hb⟩ := bs_zs (w := W) (x := x) (len := len) (zs := zs) (by simp at hz; omega) hcell hwz
    refine ⟨f, hb, hl, fun y e hp => ?_⟩
    obtain ⟨b, off, e2, hc⟩ := hb.2 hp
    rw [e2] at e
    cases e
    exact cell_lt (hc 0 hp)
/-- One digest in a row. -/
theorem sum_in {n b o : Nat} {cs : List Value} {x : DataW H × List MemPlace} (h1 : W.cells? 0 ⟨b, o, none⟩ 32 = some cs) (h2 : DataW.trod enc Tryd.prog W 0 (fun _ => true) held n 27 cs = some x) : ∃ F : Nat → Nat, (∀ j, F j < 256) ∧ ∀ j, j < 32 → W.cell? ⟨b, o + j, none⟩ = some (.int .u8 ((F j : Nat) : Int)) := by
  obtain ⟨_, hl, hc⟩ := World.cells?_some h1
  obtain ⟨xs, m, rfl, -, hlen, hx, hi⟩ := DataW.trod_array Tryd.underlying27 h2
  have hce : Tryd.prog.cellsOf 5 = 1 := by kernel_rfl
  have hcell : ∀ i, i < 32 → ∃ n : Nat, n < 256 ∧ cs[i]? = some (.int .u8 (n : Int)) := by
    intro i hi32
    have h1 := hi i hi32
    have h2 : xs[i]? = some xs[i] := by simp [hx, hi32]
    rw [h2, hce, Nat.mul_one] at h1
    obtain ⟨n, hc, -, hw⟩ := DataW.trod_int Tryd.underlying5 h1
    have h3 : cs[i]? = some (.int .u8 n) := by
      have := congrArg (·[0]?) hc
      simpa [List.getElem?_take, List.getElem?_drop] using this
    simp only [Lit.wf, Bool.and_eq_true, decide_eq_true_eq] at hw
    have e1 : IntKind.u8.min = 0 := rfl
    have e2 : IntKind.u8.max = 255 := rfl
    refine ⟨n.toNat, by omega, ?_⟩
    rw [h3, show ((n.toNat : Nat) : Int) = n by omega]
  obtain ⟨F, hF⟩ := Deep.choose_lt hcell
  refine ⟨fun j => F j % 256, fun j => Nat.mod_lt _ (by decide), fun j hj => ?_⟩
  obtain ⟨h3, h4⟩ := hF j hj
  have h5 := hc j (by omega)
  rw [Addr.add_lit] at h5
  rw [h5, h4]
  show _ = some (Value.int .u8 ((F j % 256 : Nat) : Int))
  rw [Nat.mod_eq_of_lt h3]
/-- Rows of digests. -/
theorem sums_in {a0 : Option Addr} {len0 cap0 : Nat} {d : DataW H} {p : List MemPlace} (h : DataW.Trod enc Tryd.prog W 0 (fun _ => true) held 22 (.slice a0 len0 cap0) d p) : ∃ L : List (Nat → Nat), SsAt W a0 L ∧ L.length = len0 ∧ len0 ≤ cap0 := by
  obtain ⟨fuel, hf⟩ := h
  have c5 : Tryd.prog.cellsOf 27 = 32 := by kernel_rfl
  rcases Deep.open_slice Tryd.underlying22 hf with ⟨hcs, _⟩ | ⟨a, len, cap, m, k, D, Pl, hcs, _, hl, hm, hmm, _, hx⟩
  · simp [Value.cells] at hcs
    obtain ⟨rfl, rfl, rfl⟩ := hcs
    exact ⟨[], ⟨fun F h => (by cases h), fun h => absurd h (by simp)⟩, rfl, Nat.le_refl _⟩
  · simp [Value.cells] at hcs
    obtain ⟨rfl, rfl, rfl⟩ := hcs
    rw [if_pos rfl] at hmm
    subst hmm
    rw [c5] at hx
    obtain ⟨b, off, spot⟩ := a
    by_cases hp : 0 < len0
    · obtain rfl : spot = none := by
        obtain ⟨cs', h1, _⟩ := hx 0 (by omega)
        obtain ⟨_, hl1, hc1⟩ := World.cells?_some h1
        have h2 := hc1 0 (by omega)
        rw [List.getElem?_eq_getElem (by omega)] at h2
        simpa [Addr.add] using World.cell?_spot h2
      have hex : ∀ i, i < len0 → ∃ F : Nat → Nat, (∀ j, F j < 256) ∧ ∀ j, j < 32 → W.cell? ⟨b, off + i * 32 + j, none⟩ = some (.int .u8 ((F j : Nat) : Int)) := fun i hi => by
        obtain ⟨cs', h1, h2⟩ := hx i (by omega)
        rw [Addr.add_lit] at h1
        exact sum_in h1 h2
      obtain ⟨f, hf⟩ := Deep.choose_lt hex
      refine ⟨(List.range len0).map f, ⟨fun F hF => ?_, fun _ => ⟨b, off, rfl, fun i hi j hj => ?_⟩⟩, by simp, hl⟩
      · obtain ⟨i, hi, rfl⟩ := List.mem_map.1 hF
        exact (hf i (List.mem_range.1 hi)).1
      · simp only [List.length_map, List.length_range] at hi
        have := (hf i hi).2 j hj
        rw [Nat.mul_comm] at this
        simpa using this
    · obtain rfl : len0 = 0 := by omega
      exact ⟨[], ⟨fun F h => (by cases h), fun h => absurd h (by simp)⟩, rfl, hl⟩
end
end Go.Proofs.YtdofoampjlebbaaDoor

namespace Go.Proofs.YtdofoampjlebbaaDoor
open Go.RowKit Go.Maps Sh

theorem ix_st {a : Option Addr} {b off n cap i : Nat} (e : a = some ⟨b, off, none⟩) (hi : i < n) (w : World) : (Instr.indexAt 22 (.slice a n cap) (.int .i64 ((i : Nat) : Int))).run Tryd.prog w = .ok (.pointer (some ⟨b, off + 32 * i, none⟩)) w := by
  subst e; exact ix_ss hi w
theorem ld_st {w : World} {a : Option Addr} {b off i : Nat} {L : List (Nat → Nat)} (h : SsAt w a L) (e : a = some ⟨b, off, none⟩) (hi : i < L.length) : (Instr.loadAt 27 (.pointer (some ⟨b, off + 32 * i, none⟩))).run Tryd.prog w = .ok (.agg (ab 32 (L.getD i fun _ => 0))) w := by
  subst e
  rw [ld_ss h hi, List.getD_eq_getElem?_getD, List.getElem?_eq_getElem hi]; rfl
section
variable {x u : Operand}
theorem neS_f {F G : Nat → Nat} (h : eqD F G = true) (w : World) : (do eqGuard .neq 27 x u (.agg (ab 32 F)) (.agg (ab 32 G)); binOp .neq 27 (.agg (ab 32 F)) (.agg (ab 32 G))).run Tryd.prog w = .ok (.bool false) w := by
  rw [neS, h]; rfl
theorem neS_t {F G : Nat → Nat} (h : eqD F G = false) (w : World) : (do eqGuard .neq 27 x u (.agg (ab 32 F)) (.agg (ab 32 G)); binOp .neq 27 (.agg (ab 32 F)) (.agg (ab 32 G))).run Tryd.prog w = .ok (.bool true) w := by
  rw [neS, h]; rfl
end
/-- The same digests. -/
def eqLs : List (Nat → Nat) → List (Nat → Nat) → Bool
  | [], [] => true
  | F :: r, G :: s => eqD F G && eqLs r s
  | _, _ => false
theorem eqLs_refl : ∀ L : List (Nat → Nat), eqLs L L = true
  | [] => rfl
  | F :: r => by
    show (eqD F F && eqLs r r) = true
    rw [eqLs_refl r, eqD_iff.2 fun _ _ => rfl]; rfl
theorem eqLs_len : ∀ {L M : List (Nat → Nat)}, L.length ≠ M.length → eqLs L M = false
  | [], [], h => absurd rfl h
  | [], _ :: _, _ => rfl
  | _ :: _, [], _ => rfl
  | F :: r, G :: s, h => by
    show (eqD F G && eqLs r s) = false
    rw [eqLs_len (L := r) (M := s) (by simpa using h), Bool.and_false]
/-- Either all are the same, or there is a first one that isn't. -/
theorem eqLs_cases : ∀ {L M : List (Nat → Nat)}, L.length = M.length → (eqLs L M = true ∧ ∀ i, i < L.length → eqD (L.getD i fun _ => 0) (M.getD i fun _ => 0) = true) ∨ (eqLs L M = false ∧ ∃ k, k < L.length ∧ eqD (L.getD k fun _ => 0) (M.getD k fun _ => 0) = false ∧ ∀ i, i < k → eqD (L.getD i fun _ => 0) (M.getD i fun _ => 0) = true)
  | [], [], _ => .inl ⟨rfl, fun i h => absurd h (by simp)⟩
  | F :: r, G :: s, h => by
    cases e : eqD F G with
    | false => exact .inr ⟨by show (eqD F G && eqLs r s) = false; rw [e]; rfl, 0, by simp, e, fun i hi => absurd hi (by omega)⟩
    | true =>
      rcases eqLs_cases (L := r) (M := s) (by simpa using h) with ⟨h1, h2⟩ | ⟨h1, k, hk, h2, h3⟩
      · refine .inl ⟨by show (eqD F G && eqLs r s) = true; rw [e, h1]; rfl, fun i hi => ?_⟩
        rcases i with _ | i
        · exact e
        · exact h2 i (by simpa using hi)
      · refine .inr ⟨by show (eqD F G && eqLs r s) = false; rw [e, h1]; rfl, k + 1, by simpa using hk, h2, fun i hi => ?_⟩
        rcases i with _ | i
        · exact e
        · exact h3 i (by omega)
/-- Two digests held against one another, in a plain region. -/
theorem wpList_eqS {w : World} {ops : Array Oper} {rest : List Oper} {o : Oper} {a : Act} {Q : Exit → Act → World → Prop} (hgd : o.guard = none) (x u : Operand) {t' : TypeId} (ho : o.op = .binOp .eql 27 x u t') {F G : Nat → Nat} (hx : a.eval x = .agg (ab 32 F)) (hu : a.eval u = .agg (ab 32 G)) (h : wpList Tryd.prog ops Q rest (a.put o.dst (.bool (eqD F G))) w) : wpList Tryd.prog ops Q (o :: rest) a w := by
  refine wpList_plain hgd fun K hK => ?_
  have h3 := eqS (x := x) (u := u) F G w
  unfold Oper.wp
  simp only [execOp, ho, hx, hu, Sem.run_bind, h3, Result.andThen_ok, Sem.run_pure, Oper.upon_value]
  exact hK _ _ h
theorem wpList_neS {w : World} {ops : Array Oper} {rest : List Oper} {o : Oper} {a : Act} {Q : Exit → Act → World → Prop} (hgd : o.guard = none) (x u : Operand) {t' : TypeId} (ho : o.op = .binOp .neq 27 x u t') {F G : Nat → Nat} (hx : a.eval x = .agg (ab 32 F)) (hu : a.eval u = .agg (ab 32 G)) (h : wpList Tryd.prog ops Q rest (a.put o.dst (.bool (!eqD F G))) w) : wpList Tryd.prog ops Q (o :: rest) a w := by
  refine wpList_plain hgd fun K hK => ?_
  have h3 := neS (x := x) (u := u) F G w
  unfold Oper.wp
  simp only [execOp, ho, hx, hu, Sem.run_bind, h3, Result.andThen_ok, Sem.run_pure, Oper.upon_value]
  exact hK _ _ h
set_option maxHeartbeats 1000000 in
theorem sums_z {a a2 : Option Addr} {cap cap2 : Nat} {W0 : World} : Calls Tryd.prog 20 #[.slice a 0 cap, .slice a2 0 cap2] W0 fun e w' => e = .returned (.bool true) ∧ Below W0.heap.size W0 w' := by
  go_enter Tryd.func20, Tryd.ntmps20
  go_wp2
  refine wp_loop_rounds 1 ?_
  rw [rounds_succ]
  go_wp2
  go_ret
  exact ⟨rfl, Below.refl _ _⟩
end Go.Proofs.YtdofoampjlebbaaDoor

namespace Go.Proofs.YtdofoampjlebbaaDoor
open Go.RowKit Go.Maps Sh
set_option maxHeartbeats 4000000 in
theorem sums_n {aa a2 : Option Addr} {n m cap cap2 : Nat} {W0 : World} (hne : n ≠ m) : Calls Tryd.prog 20 #[.slice aa n cap, .slice a2 m cap2] W0 fun e w' => e = .returned (.bool false) ∧ Below W0.heap.size W0 w' := by
  refine s_in Tryd.func20 Tryd.ntmps20 rfl [.inl (.slice aa n cap), .inl (.slice a2 m cap2)] ?_
  intro β a h
  refine sym_seq ?_
  refine St.r0 h [(4, .inl (.bool false))] [] ?_ ?_
  · exact oz (k_mv (.inr rfl) rfl) <|
    ok_nil
  clear h; intro β a w h
  refine sym_then ?_
  refine sym_seq ?_
  refine sym_seq ?_
  refine St.r0 h [(6, .inl (.slice aa n cap)), (7, .inl (.int .i64 ((n : Nat) : Int))), (8, .inl (.slice a2 m cap2)), (9, .inl (.int .i64 ((m : Nat) : Int))), (10, .inl (.bool true))] [] ?_ ?_
  · exact oz (k_mv (.inl rfl) rfl) <|
    oz (k_ln (ad := aa) n cap rfl rfl (fun w => len_ss _ w)) <|
    oz (k_mv (.inl rfl) rfl) <|
    oz (k_ln (ad := a2) m cap2 rfl rfl (fun w => len_ss _ w)) <|
    oz (k_bi (.int .i64 ((n : Nat) : Int)) (.int .i64 ((m : Nat) : Int)) (.bool true) (ne_i (m := ((n : Nat) : Int)) (n := ((m : Nat) : Int)) (decide_eq_true (by omega))) rfl rfl) <|
    ok_nil
  clear h; intro β a w h
  refine sym_then ?_
  refine s_ct h ?_
  refine sym_seq ?_
  refine St.r0 h [] [] ?_ ?_
  · exact oz (k_mv (.inr rfl) rfl) <|
    ok_nil
  clear h; intro β a w h
  refine sym_then ?_
  refine wp_ret ?_
  refine then_ret ?_
  exact s_rt h Tryd.results20 (fun hb => ⟨rfl, hb⟩)
set_option maxHeartbeats 4000000 in
theorem sums_t {aa a2 : Option Addr} {b off b2 off2 n cap cap2 : Nat} {L M : List (Nat → Nat)} {W0 : World} (hL : SsAt W0 aa L) (hM : SsAt W0 a2 M) (lL : L.length = n) (lM : M.length = n) (hm : n ≤ 1000000) (ea : aa = some ⟨b, off, none⟩) (eb : a2 = some ⟨b2, off2, none⟩) (heq : ∀ i, i < n → eqD (L.getD i fun _ => 0) (M.getD i fun _ => 0) = true) : Calls Tryd.prog 20 #[.slice aa n cap, .slice a2 n cap2] W0 fun e w' => e = .returned (.bool true) ∧ Below W0.heap.size W0 w' := by
  refine s_in Tryd.func20 Tryd.ntmps20 rfl [.inl (.slice aa n cap), .inl (.slice a2 n cap2)] ?_
  intro β a h
  refine sym_seq ?_
  refine St.r0 h [(4, .inl (.bool false))] [] ?_ ?_
  · exact oz (k_mv (.inr rfl) rfl) <|
    ok_nil
  clear h; intro β a w h
  refine sym_then ?_
  refine sym_seq ?_
  refine sym_seq ?_
  refine St.r0 h [(6, .inl (.slice aa n cap)), (7, .inl (.int .i64 ((n : Nat) : Int))), (8, .inl (.slice a2 n cap2)), (9, .inl (.int .i64 ((n : Nat) : Int))), (10, .inl (.bool false))] [] ?_ ?_
  · exact oz (k_mv (.inl rfl) rfl) <|
    oz (k_ln (ad := aa) n cap rfl rfl (fun w => len_ss _ w)) <|
    oz (k_mv (.inl rfl) rfl) <|
    oz (k_ln (ad := a2) n cap2 rfl rfl (fun w => len_ss _ w)) <|
    oz (k_bi (.int .i64 ((n : Nat) : Int)) (.int .i64 ((n : Nat) : Int)) (.bool false) (ne_i (m := ((n : Nat) : Int)) (n := ((n : Nat) : Int)) (decide_eq_false (by omega))) rfl rfl) <|
    ok_nil
  clear h; intro β a w h
  refine sym_then ?_
  refine s_cf h ?_
  refine wp_skip ?_
  refine sym_then ?_
  refine sym_seq ?_
  refine sym_seq ?_
  refine St.r0 h [(11, .inl (.slice aa n cap)), (12, .inl (.int .i64 ((n : Nat) : Int))), (13, .inl (.int .i64 ((0 : Nat) : Int)))] [] ?_ ?_
  · exact oz (k_mv (.inl rfl) rfl) <|
    oz (k_ln (ad := aa) n cap rfl rfl (fun w => len_ss _ w)) <|
    oz (k_mv (.inl rfl) rfl) <|
    ok_nil
  clear h; intro β a w h
  refine sym_then ?_
  refine blk_in ?_
  obtain ⟨x, h⟩ := St.jn (n := 26) h [0, 1, 6, 7, 8, 9, 10, 11, 12, 13] [.inl (.slice aa n cap), .inl (.slice a2 n cap2), .inl (.slice aa n cap), .inl (.int .i64 ((n : Nat) : Int)), .inl (.slice a2 n cap2), .inl (.int .i64 ((n : Nat) : Int)), .inl (.bool false), .inl (.slice aa n cap), .inl (.int .i64 ((n : Nat) : Int)), .inl (.int .i64 ((0 : Nat) : Int))] [] (by kernel_rfl) (by kernel_rfl) (by kernel_rfl)
  refine loop_up n (fun i a w => ∃ (x : Nat → SV) (β : Nat → Nat), St (wd W0) (ov (jk 26 x) ([0, 1, 6, 7, 8, 9, 10, 11, 12, 13].zip [.inl (.slice aa n cap), .inl (.slice a2 n cap2), .inl (.slice aa n cap), .inl (.int .i64 ((n : Nat) : Int)), .inl (.slice a2 n cap2), .inl (.int .i64 ((n : Nat) : Int)), .inl (.bool false), .inl (.slice aa n cap), .inl (.int .i64 ((n : Nat) : Int)), .inl (.int .i64 ((i : Nat) : Int))])) [] β a w) ⟨x, _, h⟩ ?_
  clear h; rintro i a w hki ⟨x, β, h⟩
  rcases Nat.lt_or_ge i n with hlti | hgei
  · refine sym_seq ?_
    refine St.r0 h [(14, .inl (.bool true))] [] ?_ ?_
    · exact oz (k_bi (.int .i64 ((i : Nat) : Int)) (.int .i64 ((n : Nat) : Int)) (.bool true) (lt_i (m := ((i : Nat) : Int)) (n := ((n : Nat) : Int)) (decide_eq_true (by omega))) rfl rfl) <|
      ok_nil
    clear h; intro β a w h
    refine sym_then ?_
    refine sym_seq ?_
    refine s_ct h ?_
    refine wp_skip ?_
    refine sym_then ?_
    refine sym_seq ?_
    refine blk_in ?_
    refine sym_seq ?_
    refine St.r0 h [(15, .inl (.int .i64 ((i : Nat) : Int))), (5, .inl (.int .i64 ((i : Nat) : Int)))] [] ?_ ?_
    · exact oz (k_mv (.inl rfl) rfl) <|
      oz (k_mv (.inr rfl) rfl) <|
      ok_nil
    clear h; intro β a w h
    refine sym_then ?_
    refine sym_seq ?_
    refine St.r0 h [(16, .inl (.slice aa n cap)), (17, .inl (.int .i64 ((i : Nat) : Int))), (18, .inl (.pointer (some ⟨b, off + 32 * i, none⟩))), (19, .inl (.agg (ab 32 (L.getD i fun _ => 0)))), (20, .inl (.slice a2 n cap2)), (21, .inl (.int .i64 ((i : Nat) : Int))), (22, .inl (.pointer (some ⟨b2, off2 + 32 * i, none⟩))), (23, .inl (.agg (ab 32 (M.getD i fun _ => 0)))), (24, .inl (.bool false))] [] ?_ ?_
    · exact oz (k_mv (.inl rfl) rfl) <|
      oz (k_mv (.inl rfl) rfl) <|
      oz (k_is (.slice aa n cap) (.int .i64 ((i : Nat) : Int)) (.pointer (some ⟨b, off + 32 * i, none⟩)) (fun w => ix_st ea (i := i) (by omega) w) rfl rfl) <|
      oz (k_lf (.pointer (some ⟨b, off + 32 * i, none⟩)) (.agg (ab 32 (L.getD i fun _ => 0))) (fun w hw => ld_st (hL.later hw.below) ea (by omega)) rfl rfl) <|
      oz (k_mv (.inl rfl) rfl) <|
      oz (k_mv (.inl rfl) rfl) <|
      oz (k_is (.slice a2 n cap2) (.int .i64 ((i : Nat) : Int)) (.pointer (some ⟨b2, off2 + 32 * i, none⟩)) (fun w => ix_st eb (i := i) (by omega) w) rfl rfl) <|
      oz (k_lf (.pointer (some ⟨b2, off2 + 32 * i, none⟩)) (.agg (ab 32 (M.getD i fun _ => 0))) (fun w hw => ld_st (hM.later hw.below) eb (by omega)) rfl rfl) <|
      oz (k_bi (.agg (ab 32 (L.getD i fun _ => 0))) (.agg (ab 32 (M.getD i fun _ => 0))) (.bool false) (neS_f (heq i (by omega))) rfl rfl) <|
      ok_nil
    clear h; intro β a w h
    refine sym_then ?_
    refine s_cf h ?_
    refine wp_skip ?_
    refine blk_norm ?_
    refine sym_then ?_
    refine St.r0 h [(25, .inl (.int .i64 (((i + 1) : Nat) : Int))), (13, .inl (.int .i64 (((i + 1) : Nat) : Int)))] [eO] ?_ ?_
    · exact oc (k_b0 (.int .i64 ((i : Nat) : Int)) (.int .i64 ((1 : Nat) : Int)) (.int .i64 (((i + 1) : Nat) : Int)) (ad_i (m := i) (n := 1) (by omega)) rfl rfl) <|
      oz (k_mv (.inl rfl) rfl) <|
      ok_nil
    clear h; intro β a w h
    obtain ⟨x, h⟩ := St.jn (n := 26) h [0, 1, 6, 7, 8, 9, 10, 11, 12, 13] [.inl (.slice aa n cap), .inl (.slice a2 n cap2), .inl (.slice aa n cap), .inl (.int .i64 ((n : Nat) : Int)), .inl (.slice a2 n cap2), .inl (.int .i64 ((n : Nat) : Int)), .inl (.bool false), .inl (.slice aa n cap), .inl (.int .i64 ((n : Nat) : Int)), .inl (.int .i64 (((i + 1) : Nat) : Int))] [] (by kernel_rfl) (by kernel_rfl) (by kernel_rfl)
    exact ⟨hlti, x, _, h⟩
  · obtain rfl : n = i := by omega
    refine sym_seq ?_
    refine St.r0 h [(14, .inl (.bool false))] [] ?_ ?_
    · exact oz (k_bi (.int .i64 ((n : Nat) : Int)) (.int .i64 ((n : Nat) : Int)) (.bool false) (lt_i (m := ((n : Nat) : Int)) (n := ((n : Nat) : Int)) (decide_eq_false (by omega))) rfl rfl) <|
      ok_nil
    clear h; intro β a w h
    refine sym_then ?_
    refine sym_seq ?_
    refine s_cf h ?_
    refine wp_exit ?_
    refine then_exit ?_
    refine then_exit ?_
    refine blk_exit ?_
    refine sym_then ?_
    refine sym_seq ?_
    refine St.r0 h [(4, .inl (.bool true))] [] ?_ ?_
    · exact oz (k_mv (.inr rfl) rfl) <|
      ok_nil
    clear h; intro β a w h
    refine sym_then ?_
    refine wp_ret ?_
    exact s_rt h Tryd.results20 (fun hb => ⟨rfl, hb⟩)
set_option maxHeartbeats 4000000 in
theorem sums_f {aa a2 : Option Addr} {b off b2 off2 n k cap cap2 : Nat} {L M : List (Nat → Nat)} {W0 : World} (hL : SsAt W0 aa L) (hM : SsAt W0 a2 M) (lL : L.length = n) (lM : M.length = n) (hm : n ≤ 1000000) (ea : aa = some ⟨b, off, none⟩) (eb : a2 = some ⟨b2, off2, none⟩) (hk : k < n) (hdif : eqD (L.getD k fun _ => 0) (M.getD k fun _ => 0) = false) (heq : ∀ i, i < k → eqD (L.getD i fun _ => 0) (M.getD i fun _ => 0) = true) : Calls Tryd.prog 20 #[.slice aa n cap, .slice a2 n cap2] W0 fun e w' => e = .returned (.bool false) ∧ Below W0.heap.size W0 w' := by
  refine s_in Tryd.func20 Tryd.ntmps20 rfl [.inl (.slice aa n cap), .inl (.slice a2 n cap2)] ?_
  intro β a h
  refine sym_seq ?_
  refine St.r0 h [(4, .inl (.bool false))] [] ?_ ?_
  · exact oz (k_mv (.inr rfl) rfl) <|
    ok_nil
  clear h; intro β a w h
  refine sym_then ?_
  refine sym_seq ?_
  refine sym_seq ?_
  refine St.r0 h [(6, .inl (.slice aa n cap)), (7, .inl (.int .i64 ((n : Nat) : Int))), (8, .inl (.slice a2 n cap2)), (9, .inl (.int .i64 ((n : Nat) : Int))), (10, .inl (.bool false))] [] ?_ ?_
  · exact oz (k_mv (.inl rfl) rfl) <|
    oz (k_ln (ad := aa) n cap rfl rfl (fun w => len_ss _ w)) <|
    oz (k_mv (.inl rfl) rfl) <|
    oz (k_ln (ad := a2) n cap2 rfl rfl (fun w => len_ss _ w)) <|
    oz (k_bi (.int .i64 ((n : Nat) : Int)) (.int .i64 ((n : Nat) : Int)) (.bool false) (ne_i (m := ((n : Nat) : Int)) (n := ((n : Nat) : Int)) (decide_eq_false (by omega))) rfl rfl) <|
    ok_nil
  clear h; intro β a w h
  refine sym_then ?_
  refine s_cf h ?_
  refine wp_skip ?_
  refine sym_then ?_
  refine sym_seq ?_
  refine sym_seq ?_
  refine St.r0 h [(11, .inl (.slice aa n cap)), (12, .inl (.int .i64 ((n : Nat) : Int))), (13, .inl (.int .i64 ((0 : Nat) : Int)))] [] ?_ ?_
  · exact oz (k_mv (.inl rfl) rfl) <|
    oz (k_ln (ad := aa) n cap rfl rfl (fun w => len_ss _ w)) <|
    oz (k_mv (.inl rfl) rfl) <|
    ok_nil
  clear h; intro β a w h
  refine sym_then ?_
  refine blk_in ?_
  obtain ⟨x, h⟩ := St.jn (n := 26) h [0, 1, 6, 7, 8, 9, 10, 11, 12, 13] [.inl (.slice aa n cap), .inl (.slice a2 n cap2), .inl (.slice aa n cap), .inl (.int .i64 ((n : Nat) : Int)), .inl (.slice a2 n cap2), .inl (.int .i64 ((n : Nat) : Int)), .inl (.bool false), .inl (.slice aa n cap), .inl (.int .i64 ((n : Nat) : Int)), .inl (.int .i64 ((0 : Nat) : Int))] [] (by kernel_rfl) (by kernel_rfl) (by kernel_rfl)
  refine loop_up k (fun i a w => ∃ (x : Nat → SV) (β : Nat → Nat), St (wd W0) (ov (jk 26 x) ([0, 1, 6, 7, 8, 9, 10, 11, 12, 13].zip [.inl (.slice aa n cap), .inl (.slice a2 n cap2), .inl (.slice aa n cap), .inl (.int .i64 ((n : Nat) : Int)), .inl (.slice a2 n cap2), .inl (.int .i64 ((n : Nat) : Int)), .inl (.bool false), .inl (.slice aa n cap), .inl (.int .i64 ((n : Nat) : Int)), .inl (.int .i64 ((i : Nat) : Int))])) [] β a w) ⟨x, _, h⟩ ?_
  clear h; rintro i a w hki ⟨x, β, h⟩
  rcases Nat.lt_or_ge i k with hlti | hgei
  · refine sym_seq ?_
    refine St.r0 h [(14, .inl (.bool true))] [] ?_ ?_
    · exact oz (k_bi (.int .i64 ((i : Nat) : Int)) (.int .i64 ((n : Nat) : Int)) (.bool true) (lt_i (m := ((i : Nat) : Int)) (n := ((n : Nat) : Int)) (decide_eq_true (by omega))) rfl rfl) <|
      ok_nil
    clear h; intro β a w h
    refine sym_then ?_
    refine sym_seq ?_
    refine s_ct h ?_
    refine wp_skip ?_
    refine sym_then ?_
    refine sym_seq ?_
    refine blk_in ?_
    refine sym_seq ?_
    refine St.r0 h [(15, .inl (.int .i64 ((i : Nat) : Int))), (5, .inl (.int .i64 ((i : Nat) : Int)))] [] ?_ ?_
    · exact oz (k_mv (.inl rfl) rfl) <|
      oz (k_mv (.inr rfl) rfl) <|
      ok_nil
    clear h; intro β a w h
    refine sym_then ?_
    refine sym_seq ?_
    refine St.r0 h [(16, .inl (.slice aa n cap)), (17, .inl (.int .i64 ((i : Nat) : Int))), (18, .inl (.pointer (some ⟨b, off + 32 * i, none⟩))), (19, .inl (.agg (ab 32 (L.getD i fun _ => 0)))), (20, .inl (.slice a2 n cap2)), (21, .inl (.int .i64 ((i : Nat) : Int))), (22, .inl (.pointer (some ⟨b2, off2 + 32 * i, none⟩))), (23, .inl (.agg (ab 32 (M.getD i fun _ => 0)))), (24, .inl (.bool false))] [] ?_ ?_
    · exact oz (k_mv (.inl rfl) rfl) <|
      oz (k_mv (.inl rfl) rfl) <|
      oz (k_is (.slice aa n cap) (.int .i64 ((i : Nat) : Int)) (.pointer (some ⟨b, off + 32 * i, none⟩)) (fun w => ix_st ea (i := i) (by omega) w) rfl rfl) <|
      oz (k_lf (.pointer (some ⟨b, off + 32 * i, none⟩)) (.agg (ab 32 (L.getD i fun _ => 0))) (fun w hw => ld_st (hL.later hw.below) ea (by omega)) rfl rfl) <|
      oz (k_mv (.inl rfl) rfl) <|
      oz (k_mv (.inl rfl) rfl) <|
      oz (k_is (.slice a2 n cap2) (.int .i64 ((i : Nat) : Int)) (.pointer (some ⟨b2, off2 + 32 * i, none⟩)) (fun w => ix_st eb (i := i) (by omega) w) rfl rfl) <|
      oz (k_lf (.pointer (some ⟨b2, off2 + 32 * i, none⟩)) (.agg (ab 32 (M.getD i fun _ => 0))) (fun w hw => ld_st (hM.later hw.below) eb (by omega)) rfl rfl) <|
      oz (k_bi (.agg (ab 32 (L.getD i fun _ => 0))) (.agg (ab 32 (M.getD i fun _ => 0))) (.bool false) (neS_f (heq i (by omega))) rfl rfl) <|
      ok_nil
    clear h; intro β a w h
    refine sym_then ?_
    refine s_cf h ?_
    refine wp_skip ?_
    refine blk_norm ?_
    refine sym_then ?_
    refine St.r0 h [(25, .inl (.int .i64 (((i + 1) : Nat) : Int))), (13, .inl (.int .i64 (((i + 1) : Nat) : Int)))] [eO] ?_ ?_
    · exact oc (k_b0 (.int .i64 ((i : Nat) : Int)) (.int .i64 ((1 : Nat) : Int)) (.int .i64 (((i + 1) : Nat) : Int)) (ad_i (m := i) (n := 1) (by omega)) rfl rfl) <|
      oz (k_mv (.inl rfl) rfl) <|
      ok_nil
    clear h; intro β a w h
    obtain ⟨x, h⟩ := St.jn (n := 26) h [0, 1, 6, 7, 8, 9, 10, 11, 12, 13] [.inl (.slice aa n cap), .inl (.slice a2 n cap2), .inl (.slice aa n cap), .inl (.int .i64 ((n : Nat) : Int)), .inl (.slice a2 n cap2), .inl (.int .i64 ((n : Nat) : Int)), .inl (.bool false), .inl (.slice aa n cap), .inl (.int .i64 ((n : Nat) : Int)), .inl (.int .i64 (((i + 1) : Nat) : Int))] [] (by kernel_rfl) (by kernel_rfl) (by kernel_rfl)
    exact ⟨hlti, x, _, h⟩
  · obtain rfl : k = i := by omega
    refine sym_seq ?_
    refine St.r0 h [(14, .inl (.bool true))] [] ?_ ?_
    · exact oz (k_bi (.int .i64 ((k : Nat) : Int)) (.int .i64 ((n : Nat) : Int)) (.bool true) (lt_i (m := ((k : Nat) : Int)) (n := ((n : Nat) : Int)) (decide_eq_true (by omega))) rfl rfl) <|
      ok_nil
    clear h; intro β a w h
    refine sym_then ?_
    refine sym_seq ?_
    refine s_ct h ?_
    refine wp_skip ?_
    refine sym_then ?_
    refine sym_seq ?_
    refine blk_in ?_
    refine sym_seq ?_
    refine St.r0 h [(15, .inl (.int .i64 ((k : Nat) : Int))), (5, .inl (.int .i64 ((k : Nat) : Int)))] [] ?_ ?_
    · exact oz (k_mv (.inl rfl) rfl) <|
      oz (k_mv (.inr rfl) rfl) <|
      ok_nil
    clear h; intro β a w h
    refine sym_then ?_
    refine sym_seq ?_
    refine St.r0 h [(16, .inl (.slice aa n cap)), (17, .inl (.int .i64 ((k : Nat) : Int))), (18, .inl (.pointer (some ⟨b, off + 32 * k, none⟩))), (19, .inl (.agg (ab 32 (L.getD k fun _ => 0)))), (20, .inl (.slice a2 n cap2)), (21, .inl (.int .i64 ((k : Nat) : Int))), (22, .inl (.pointer (some ⟨b2, off2 + 32 * k, none⟩))), (23, .inl (.agg (ab 32 (M.getD k fun _ => 0)))), (24, .inl (.bool true))] [] ?_ ?_
    · exact oz (k_mv (.inl rfl) rfl) <|
      oz (k_mv (.inl rfl) rfl) <|
      oz (k_is (.slice aa n cap) (.int .i64 ((k : Nat) : Int)) (.pointer (some ⟨b, off + 32 * k, none⟩)) (fun w => ix_st ea (i := k) (by omega) w) rfl rfl) <|
      oz (k_lf (.pointer (some ⟨b, off + 32 * k, none⟩)) (.agg (ab 32 (L.getD k fun _ => 0))) (fun w hw => ld_st (hL.later hw.below) ea (by omega)) rfl rfl) <|
      oz (k_mv (.inl rfl) rfl) <|
      oz (k_mv (.inl rfl) rfl) <|
      oz (k_is (.slice a2 n cap2) (.int .i64 ((k : Nat) : Int)) (.pointer (some ⟨b2, off2 + 32 * k, none⟩)) (fun w => ix_st eb (i := k) (by omega) w) rfl rfl) <|
      oz (k_lf (.pointer (some ⟨b2, off2 + 32 * k, none⟩)) (.agg (ab 32 (M.getD k fun _ => 0))) (fun w hw => ld_st (hM.later hw.below) eb (by omega)) rfl rfl) <|
      oz (k_bi (.agg (ab 32 (L.getD k fun _ => 0))) (.agg (ab 32 (M.getD k fun _ => 0))) (.bool true) (neS_t hdif) rfl rfl) <|
      ok_nil
    clear h; intro β a w h
    refine sym_then ?_
    refine s_ct h ?_
    refine sym_seq ?_
    refine St.r0 h [(4, .inl (.bool false))] [] ?_ ?_
    · exact oz (k_mv (.inr rfl) rfl) <|
      ok_nil
    clear h; intro β a w h
    refine sym_then ?_
    refine wp_ret ?_
    refine blk_ret ?_
    refine then_ret ?_
    refine then_ret ?_
    refine blk_ret ?_
    refine then_ret ?_
    exact s_rt h Tryd.results20 (fun hb => ⟨rfl, hb⟩)
theorem sums_d {aa a2 : Option Addr} {n m cap cap2 : Nat} {L M : List (Nat → Nat)} {W0 : World} (hL : SsAt W0 aa L) (hM : SsAt W0 a2 M) (lL : L.length = n) (lM : M.length = m) (hm : n ≤ 1000000) : Calls Tryd.prog 20 #[.slice aa n cap, .slice a2 m cap2] W0 fun e w' => e = .returned (.bool (eqLs L M)) ∧ Below W0.heap.size W0 w' := by
  by_cases hne : n = m
  · subst hne
    rcases Nat.eq_zero_or_pos n with h0 | h0
    · subst h0
      obtain rfl := List.eq_nil_of_length_eq_zero lL
      obtain rfl := List.eq_nil_of_length_eq_zero lM
      exact sums_z
    · obtain ⟨b, off, ea, _⟩ := hL.2 (by omega)
      obtain ⟨b2, off2, eb, _⟩ := hM.2 (by omega)
      rcases eqLs_cases (L := L) (M := M) (by omega) with ⟨h1, h2⟩ | ⟨h1, k, hk, h2, h3⟩
      · rw [h1]; exact sums_t hL hM lL lM hm ea eb (fun i hi => h2 i (by omega))
      · rw [h1]; exact sums_f hL hM lL lM hm ea eb (by omega) h2 h3
  · rw [eqLs_len (by omega)]
    exact sums_n hne
end Go.Proofs.YtdofoampjlebbaaDoor

namespace Go.Proofs.YtdofoampjlebbaaDoor
open Go.RowKit Go.Maps Sh

/-- The cells of a row of digests. -/
def ssv (L : List (Nat → Nat)) : List Value := L.flatMap fun F => (List.range 32).map fun j => Value.int .u8 ((F j : Nat) : Int)
theorem ssv_len : ∀ L : List (Nat → Nat), (ssv L).length = L.length * 32
  | [] => rfl
  | F :: r => by
    show ((List.range 32).map _ ++ ssv r).length = _
    rw [List.length_append, ssv_len r, List.length_map, List.length_range, List.length_cons]; omega
theorem ssv_get : ∀ (L : List (Nat → Nat)) (i j : Nat) (h : i < L.length), j < 32 → (ssv L)[32 * i + j]? = some (.int .u8 ((L[i] j : Nat) : Int))
  | F :: r, 0, j, h, hj => by
    show ((List.range 32).map _ ++ ssv r)[32 * 0 + j]? = _
    rw [List.getElem?_append_left (by simp; omega), List.getElem?_map, show 32 * 0 + j = j by omega, List.getElem?_range hj]; rfl
  | F :: r, i + 1, j, h, hj => by
    show ((List.range 32).map _ ++ ssv r)[32 * (i + 1) + j]? = _
    rw [List.getElem?_append_right (by simp; omega), List.length_map, List.length_range, show 32 * (i + 1) + j - 32 = 32 * i + j by omega, ssv_get r i j (by simpa using h) hj]; rfl
theorem ssv_one (L : List (Nat → Nat)) : ∀ v ∈ ssv L, v.oneCell' = true := by
  intro v hv
  obtain ⟨F, _, hv⟩ := List.mem_flatMap.1 hv
  obtain ⟨j, _, rfl⟩ := List.mem_map.1 hv
  rfl
theorem info_sum : (Tryd.prog.info? 27).map (fun i => (i.zero, i.size, i.bytes)) = some (some (.agg (ab 32 fun _ => 0)), 32, 32) := by kernel_rfl
/-- An owned row of digests reads so. -/
theorem ss_own {w : World} {base : Nat} {v : Value} {n : Nat} {L : List (Nat → Nat)} (hL : ∀ F ∈ L, ∀ j, F j < 256) (hn : L.length = n) (h : w.ownsRow base 27 32 v n (ssv L)) : ∃ a cap, v = .slice a n cap ∧ SsAt w a L ∧ n ≤ cap := by
  rcases h.2 with ⟨rfl, rfl⟩ | ⟨g, cap, cur, rfl, hb, hg, hnc, hcm, hcs, ht⟩
  · exact ⟨none, 0, rfl, ⟨hL, fun h => absurd h (by omega)⟩, Nat.le_refl _⟩
  · refine ⟨_, cap, rfl, ⟨hL, fun _ => ⟨g, 0, rfl, fun i hi j hj => ?_⟩⟩, hnc⟩
    have h1 := ssv_get L i j hi hj
    rw [← ht, List.getElem?_take] at h1
    rw [cell_of_row _ _ _ _ _ _ hg, Nat.zero_add, ← Array.getElem?_toList]
    split at h1
    · exact h1
    · cases h1
/-- Digests are put behind a row of the call's own. -/
theorem run_append_ss (w : World) (base ty : Nat) (v : Value) (n : Nat) (xs : List Value) (hown : w.ownsRow base 27 32 v n xs) (a : Option Addr) (m c : Nat) (L : List (Nat → Nat)) (hb : SsAt w a L) (hm : L.length = m)
    (hbytes : n + m ≤ 1000000) (hbase : base ≤ w.heap.size) :
    ∃ v' w', (Builtin.append_ #[22, 22] ty #[v, .slice a m c]).run Tryd.prog w = .ok v' w' ∧ w'.ownsRow base 27 32 v' (n + m) (xs ++ ssv L) ∧ w.grownBy w' v.ownBlock := by
  obtain ⟨i0, hi, hz0, hz1, hz2⟩ := info_parts info_sum
  obtain ⟨h2, h3⟩ := hb
  cases a with
  | none =>
    obtain rfl : m = 0 := by
      rcases Nat.eq_zero_or_pos m with h | h
      · exact h
      · obtain ⟨_, _, e, _⟩ := h3 (by omega); cases e
    obtain rfl := List.eq_nil_of_length_eq_zero hm
    refine ⟨v, w, ?_, by simpa [ssv] using hown, ⟨rfl, rfl, rfl, Nat.le_refl _, fun _ _ _ => rfl⟩⟩
    rcases hown.2 with ⟨rfl, rfl⟩ | ⟨g, cap, cur, rfl, _, _, hnc, _⟩
    · simp [Builtin.append_, run_underlying Tryd.underlying22, sizeOf, typeInfo, hi, Builtin.lenOf, Builtin.firstCells]
    · simp [Builtin.append_, run_underlying Tryd.underlying22, sizeOf, typeInfo, hi, Builtin.lenOf, Builtin.firstCells, hnc, storeCells]
  | some ad =>
    have hnews : ∀ j u, (ssv L)[j]? = some u → w.cell? (ad.add j) = some u := by
      intro j u hj
      have hjl : j < m * 32 := by have := (List.getElem?_eq_some_iff.1 hj).1; rwa [ssv_len, hm] at this
      obtain ⟨b, off, e, hc⟩ := h3 (by omega)
      cases e
      have h4 := hc (j / 32) (by omega) (j % 32) (by omega)
      have h5 := ssv_get L (j / 32) (j % 32) (by omega) (by omega)
      rw [show 32 * (j / 32) + j % 32 = j by omega] at h5
      rw [show off + 32 * (j / 32) + j % 32 = off + j by omega] at h4
      rw [Addr.add_lit, h4, ← h5, hj]
    obtain ⟨v', w', hr, h4, h5, _, h6⟩ := run_append_own_at (P := Tryd.prog) w base 22 ty 27 i0 _ 32 32 Tryd.underlying22 hi hz0 hz1 hz2 (ab_size _ _) (by decide) v n xs hown ad m c (ssv L) (by rw [ssv_len, hm]) hnews
      (ssv_one L) (by unfold maxLen; omega) (by omega) hbase
    exact ⟨v', w', hr, h4, h5⟩
theorem wpList_append_ss {w : World} {ops : Array Oper} {rest : List Oper} {o : Oper} {a : Act} {Q : Exit → Act → World → Prop} (hgd : o.guard = none) (s x : Operand)
    (ho : o.op = .call { callee := .builtin .append, args := #[s, x], argTypes := #[22, 22] }) (base : Nat)
    (v : Value) (n : Nat) (xs : List Value) (hs : a.eval s = v) (hown : w.ownsRow base 27 32 v n xs) (ad : Option Addr) (m c : Nat) (L : List (Nat → Nat)) (hx : a.eval x = .slice ad m c) (hb : SsAt w ad L) (hm : L.length = m)
    (hbytes : n + m ≤ 1000000) (hbase : base ≤ w.heap.size)
    (h : ∀ v' w', w'.ownsRow base 27 32 v' (n + m) (xs ++ ssv L) → w.grownBy w' v.ownBlock → wpList Tryd.prog ops Q rest (a.put o.dst v') w') : wpList Tryd.prog ops Q (o :: rest) a w := by
  refine wpList_plain hgd fun K hK => ?_
  obtain ⟨v', w', hr, h2, h3⟩ := run_append_ss w base o.type v n xs hown ad m c L hb hm hbytes hbase
  unfold Oper.wp execOp
  simp only [ho, resolve, invoke, builtin, Sem.run_bind, Sem.run_pure, Result.andThen_ok, List.map_toArray, List.map_cons, List.map_nil, hs, hx, hr]
  exact hK _ _ (h v' w' h2 h3)
end Go.Proofs.YtdofoampjlebbaaDoor

namespace Go.Proofs.YtdofoampjlebbaaDoor
open Go.RowKit Go.Shelf Sh

/-- The part of a row from f to e - 1. -/
def part (L : List (Nat → Nat)) (f e : Nat) : List (Nat → Nat) := (L.take e).drop f
/-- The digest of the part that a cut leaves aside. -/
def asd (L : List (Nat → Nat)) (c : Cu) : Nat → Nat := root (if c.r then part L c.f c.a else part L c.a c.e)
theorem part_len {L : List (Nat → Nat)} {f e : Nat} (h : e ≤ L.length) : (part L f e).length = e - f := by unfold part; rw [List.length_drop, List.length_take]; omega
theorem SsAt.part {w : World} {b off f e : Nat} {L : List (Nat → Nat)} (h : SsAt w (some ⟨b, off, none⟩) L) : SsAt w (some ⟨b, off + 32 * f, none⟩) (part L f e) := h.lo.hi
theorem sl_lh {b off n cap f e : Nat} (hf : f < e) (he : e ≤ n) (hc : n ≤ cap) (w : World) : (Instr.sliceAt 22 (.slice (some ⟨b, off, none⟩) n cap) (some (.int .i64 ((f : Nat) : Int))) (some (.int .i64 ((e : Nat) : Int))) none).run Tryd.prog w = .ok (.slice (some ⟨b, off + 32 * f, none⟩) (e - f) (cap - f)) w := by
  have h1 : (f : Int) ≤ (e : Int) := by omega
  have h2 : (e : Int) ≤ (cap : Int) := by omega
  have h3 : ¬ cap = f := by omega
  simp [Instr.sliceAt, go_sem, h1, h2, h3, Nat.mul_comm]
/-- The digests of the parts left aside, upward. -/
def asl (L : List (Nat → Nat)) (xs : List Cu) : List (Nat → Nat) := xs.reverse.map (asd L)
theorem asl_take (L : List (Nat → Nat)) (xs : List Cu) : (xs.reverse.take xs.length).map (asd L) = asl L xs := by rw [List.take_of_length_le (by simp)]; rfl
theorem own_later {w w' : World} {base e size n : Nat} {v : Value} {xs : List Value} (h : w.ownsRow base e size v n xs) (hb : Below w.heap.size w w') : w'.ownsRow base e size v n xs := by
  refine h.kept (row := none) ⟨hb.os, hb.tape, hb.output, hb.size, fun j hj _ => hb.block j hj⟩ ?_
  rcases h.2 with ⟨rfl, _⟩ | ⟨g, cap, cur, rfl, _⟩
  · exact .inl rfl
  · exact .inr (by simp [Value.ownBlock])
theorem own_below {w w1 : World} {base e size n : Nat} {v : Value} {xs : List Value} (h : w.ownsRow base e size v n xs) (hn : base ≤ w.heap.size) (hg : w.grownBy w1 v.ownBlock) : Below base w w1 :=
  (Below.refl _ w).grown hg hn (fun k ek => by
    rcases h.2 with ⟨rfl, _⟩ | ⟨g, cap, cur, rfl, hb, _⟩
    · simp [Value.ownBlock] at ek
    · obtain rfl : g = k := by simpa [Value.ownBlock] using ek
      exact hb)
/-- Which cuts lie within a row of n. -/
def CuOk (n : Nat) (c : Cu) : Prop := c.f < c.a ∧ c.a < c.e ∧ c.e ≤ n
theorem wayN_ok {n : Nat} : ∀ q i f e, e ≤ n → ∀ c ∈ wayN q i f e, CuOk n c
  | 0, _, _, _, _, c, h => by simp [wayN] at h
  | q + 1, i, f, e, he, c, h => by
    rcases Nat.lt_or_ge (f + 1) e with hlt | hge
    · rw [wayN_s hlt] at h
      have hcu := cut_in (n := e - f) (by omega)
      rcases List.mem_cons.1 h with rfl | h
      · exact ⟨by show f < f + _; omega, by show f + _ < e; omega, he⟩
      · split at h
        · exact wayN_ok q i _ e he c h
        · exact wayN_ok q i f _ (by omega) c h
    · rw [wayN_0 hge] at h; cases h
theorem way_ok (i n : Nat) : ∀ c ∈ way i n, CuOk n c := wayN_ok n i 0 n (Nat.le_refl _)
theorem ahead_ok (m n : Nat) : ∀ c ∈ aheadL m n, CuOk n c := fun c h => way_ok _ n c ((List.takeWhile_prefix _).subset h)
theorem ssv_app (A B : List (Nat → Nat)) : ssv (A ++ B) = ssv A ++ ssv B := by simp [ssv]
theorem blw {w w1 w2 : World} (h : Below w.heap.size w w1) (k : Below w1.heap.size w1 w2) : Below w.heap.size w w2 := h.trans (k.mono h.size)
theorem bs_sum (R : Nat → Nat) (w : World) : (Instr.buildSlice 22 1 #[(0, .agg (ab 32 R))]).run Tryd.prog w = .ok (.slice (some ⟨w.heap.size, 0, none⟩) 1 1) (w.alloc (.cells (ab 32 R) 27)) := by kernel_rfl
theorem wpList_bs_sum {w : World} {ops : Array Oper} {rest : List Oper} {o : Oper} {a : Act} {Q : Exit → Act → World → Prop} (hgd : o.guard = none) (x : Operand) (ho : o.op = .buildSlice 22 1 #[(0, x)]) {R : Nat → Nat} (hx : a.eval x = .agg (ab 32 R))
    (h : wpList Tryd.prog ops Q rest (a.put o.dst (.slice (some ⟨w.heap.size, 0, none⟩) 1 1)) (w.alloc (.cells (ab 32 R) 27))) : wpList Tryd.prog ops Q (o :: rest) a w := by
  refine wpList_plain hgd fun K hK => ?_
  unfold Oper.wp execOp
  simp only [ho, List.map_toArray, List.map_cons, List.map_nil, hx, Sem.run_bind, bs_sum R w, Result.andThen_ok, Sem.run_pure]
  exact hK _ _ h
theorem ss_new {w : World} {R : Nat → Nat} (hR : ∀ i, R i < 256) : SsAt (w.alloc (.cells (ab 32 R) 27)) (some ⟨w.heap.size, 0, none⟩) [R] :=
  ⟨fun F h j => by rw [List.mem_singleton.1 h]; exact hR j, fun _ => ⟨_, 0, rfl, fun i h j hj => by
    obtain rfl : i = 0 := by simpa using h
    rw [cell_of_row _ _ _ _ _ _ (World.alloc_heap_new w _), show 0 + 32 * 0 + j = j by omega]
    exact arr_get _ _ _ hj⟩⟩
end Go.Proofs.YtdofoampjlebbaaDoor

namespace Go.Proofs.YtdofoampjlebbaaDoor
open Go.RowKit Go.Shelf Sh

theorem own_weak {w : World} {base base' : Nat} {e : TypeId} {size : Nat} {v : Value} {n : Nat} {xs : List Value} (h : w.ownsRow base' e size v n xs) (hb : base ≤ base') : w.ownsRow base e size v n xs := by
  refine ⟨h.1, ?_⟩
  rcases h.2 with h2 | ⟨g, cap, cur, h1, h2, h3⟩
  · exact .inl h2
  · exact .inr ⟨g, cap, cur, h1, Nat.le_trans hb h2, h3⟩
/-- An error's value. -/
def ev (k : Int) : Value := .iface 35 (.int .i64 k)
end Go.Proofs.YtdofoampjlebbaaDoor

namespace Go.Proofs.YtdofoampjlebbaaDoor
open Go.RowKit Go.Shelf Sh

/-- What a leaf's digest comes to, put together with the digests ps by the cuts cs. -/
def comeL : List Cu → List (Nat → Nat) → (Nat → Nat) → (Nat → Nat)
  | c :: cs, p :: ps, F => comeL cs ps (jn c.r F p)
  | _, _, F => F
theorem comeL_snoc : ∀ (cs : List Cu) (ps : List (Nat → Nat)) (F : Nat → Nat) (c : Cu) (p : Nat → Nat), cs.length = ps.length → comeL (cs ++ [c]) (ps ++ [p]) F = jn c.r (comeL cs ps F) p
  | [], [], F, c, p, _ => rfl
  | c' :: cs, p' :: ps, F, c, p, h => comeL_snoc cs ps _ c p (by simpa using h)
  | [], _ :: _, _, _, _, h => by simp at h
  | _ :: _, [], _, _, _, h => by simp at h
theorem comeL_lt {F : Nat → Nat} (hF : ∀ i, F i < 256) : ∀ (cs : List Cu) (ps : List (Nat → Nat)), ∀ i, comeL cs ps F i < 256 := by
  intro cs
  induction cs generalizing F with
  | nil => intro ps; cases ps <;> exact hF
  | cons c cs ih =>
    intro ps
    cases ps with
    | nil => exact hF
    | cons p ps => exact ih (jn_lt _ _ _) ps
theorem sum_zero (w : World) : (Instr.build 27 #[]).run Tryd.prog w = .ok (.agg (ab 32 fun _ => 0)) w := by kernel_rfl
/-- The engine: what a call has laid is counted to what is kept. -/
structure Bsd (W V : Wd) : Prop where
  kw : ∀ v, KW V v → KW W v
  sub : ∀ k, W.S k → V.S k
  pn : V.pn = W.pn
theorem St.unb {W V : Wd} {s : List SV} {m : List Blk} {β : Nat → Nat} {a : Act} {w : World} (h : St V s m β a w) (hk : Bsd W V) : St W s m β a w :=
  ⟨h.tm, hk.kw _ h.bel, h.row, fun b hb hs => h.old b hb (hk.sub _ hs), h.inj, h.live, fun b q e => h.pin b q (by rw [hk.pn]; exact e)⟩
theorem St.lt {W : Wd} {s : List SV} {m : List Blk} {β : Nat → Nat} {a : Act} {w : World} (h : St W s m β a w) {b : Nat} (hb : b < m.length) : β b < w.heap.size := by
  obtain ⟨x, hx⟩ : ∃ x, m[b]? = some x := ⟨_, List.getElem?_eq_getElem hb⟩
  exact (Array.getElem?_eq_some_iff.1 (h.row b x hx)).1
theorem go_base {W : Wd} {s : List SV} {m : List Blk} {β : Nat → Nat} {a : Act} {w : World} {Q : Exit → Act → World → Prop} (h : St W s m β a w) (s' : List SV) {a' : Act} {w' : World} (hb : Below w.heap.size w w')
    (hk : ∀ (V : Wd) (a : Act) (n : Nat), w.heap.size = n → Bsd W V → (∀ v, KW V v → ∀ j, n ≤ j → j < w'.heap.size → v.heap[j]? = w'.heap[j]?) → St V s' m β a w' → Q .normal a w') (ha : a' = { tmps := (s'.map (den β)).toArray, defers := [] }) (hl : liveB s' m.length = true := by kernel_rfl) : Q .normal a' w' := by
  have hlt := fun b (hb : b < m.length) => h.lt hb
  refine hk ⟨w', fun k => k < w'.heap.size ∧ ∀ b, b < m.length → β b ≠ k, fun _ h => h.1, W.pn⟩ a' _ rfl ⟨fun v hv => ?_, fun k hk => ⟨Nat.lt_of_lt_of_le (W.lt k hk) (Nat.le_trans h.bel.size hb.size), fun b hb' e => h.old b hb' (e ▸ hk)⟩, rfl⟩ (fun v hv j h1 h2 => hv.block j ⟨h2, fun b hb' e => by have := hlt b hb'; omega⟩)
    ⟨ha, ⟨rfl, rfl, rfl, Nat.le_refl _, fun _ _ => rfl⟩, fun b c hc => (hb.block _ (hlt b (List.getElem?_eq_some_iff.1 hc).1)).trans (h.row b c hc), fun b hb' hs => hs.2 b hb' rfl, h.inj, live_of hl, h.pin⟩
  exact ⟨hv.os.trans (hb.os.trans h.bel.os), hv.tape.trans (hb.tape.trans h.bel.tape), hv.output.trans (hb.output.trans h.bel.output), Nat.le_trans h.bel.size (Nat.le_trans hb.size hv.size), fun k hk => by
    have hkw := W.lt k hk
    have h0 := h.bel.size
    rw [hv.block k ⟨by have := hb.size; show k < w'.heap.size; omega, fun b hb' e => h.old b hb' (e ▸ hk)⟩]
    exact (hb.block k (by omega)).trans (h.bel.block k hk)⟩
def cvA (c : Cu) : Array Value := #[.int .i64 ((c.f : Nat) : Int), .int .i64 ((c.a : Nat) : Int), .int .i64 ((c.e : Nat) : Int), .bool c.r]
end Go.Proofs.YtdofoampjlebbaaDoor

namespace Go.Proofs.YtdofoampjlebbaaDoor
open Go.RowKit Go.Maps Sh

theorem ss_ad {w : World} {a : Option Addr} {N : Nat} {L : List (Nat → Nat)} (h : SsAt w a L) (hN : L.length = N) : ∃ pb po, 0 < N → a = some ⟨pb, po, none⟩ := by
  rcases Nat.eq_zero_or_pos N with h0 | h0
  · exact ⟨0, 0, fun h => by omega⟩
  · obtain ⟨b, off, e, _⟩ := h.2 (by omega)
    exact ⟨b, off, fun _ => e⟩
theorem ix_st2 {a : Option Addr} {b off n cap i : Nat} (ea : 0 < n → a = some ⟨b, off, none⟩) (hi : i < n) (w : World) : (Instr.indexAt 22 (.slice a n cap) (.int .i64 ((i : Nat) : Int))).run Tryd.prog w = .ok (.pointer (some ⟨b, off + 32 * i, none⟩)) w := by
  rw [ea (by omega)]; exact ix_ss hi w
theorem ld_st2 {w : World} {a : Option Addr} {b off n i : Nat} {L : List (Nat → Nat)} (h : SsAt w a L) (ea : 0 < n → a = some ⟨b, off, none⟩) (hi : i < L.length ∧ i < n) : (Instr.loadAt 27 (.pointer (some ⟨b, off + 32 * i, none⟩))).run Tryd.prog w = .ok (.agg (ab 32 (L.getD i fun _ => 0))) w := by
  rw [ea (by omega)] at h
  rw [show (L.getD i fun _ => 0) = L[i]'hi.1 by simp [List.getD_eq_getElem?_getD, hi.1]]
  exact ld_ss h hi.1
theorem getD_lt {L : List (Nat → Nat)} (h : ∀ P ∈ L, ∀ j, P j < 256) (k : Nat) : ∀ j, (L.getD k fun _ => 0) j < 256 := by
  intro j
  rw [List.getD_eq_getElem?_getD]
  cases e : L[k]? with
  | none => show 0 < 256; decide
  | some x => exact h x (List.mem_of_getElem? e) j
theorem come_step {cs : List Cu} {ps : List (Nat → Nat)} {F : Nat → Nat} {N k : Nat} (lc : cs.length = N) (lp : ps.length = N) (hk : k < N) : jn (cs.getD k default).r (comeL (cs.take k) (ps.take k) F) (ps.getD k fun _ => 0) = comeL (cs.take (k + 1)) (ps.take (k + 1)) F := by
  rw [List.take_succ_eq_append_getElem (by omega), List.take_succ_eq_append_getElem (l := ps) (by omega), comeL_snoc _ _ _ _ _ (by rw [List.length_take, List.length_take]; omega)]
  simp [List.getD_eq_getElem?_getD, show k < cs.length by omega, show k < ps.length by omega]
section
variable {P : Program} {W : Wd} {ops : Array Oper} {s0 s1 : List SV} {z : List Blk} {y : List (Array Value)} {o : Oper}
/-- A value put into an interface. -/
theorem k_mi {t : TypeId} {x : Operand} {d : Tmp} (x1 v : Value) (hr : ∀ w, (Instr.makeInterface t x1).run P w = .ok v w) (ho : o.op = .makeInterface t x) (hd : o.dst = some d)
    (hw : wantF ops s1 o = true := by kernel_rfl) (hpx : plainB s1 x = true := by kernel_rfl) (hx1 : evS s1 x = x1 := by kernel_rfl) (hs : slot s1 d = .inl v := by kernel_rfl) : Ok1 P W ops s0 s1 z y o ⟨none, none, none, false⟩ := by
  refine ok_val hw hd hs (fun β a w ha => ?_)
  have e1 : a.eval x = x1 := by rw [← hx1]; exact ev_plain ha (by rw [ho]; simp [Op.operands]) hpx
  simp only [execOp, ho, e1, Sem.run_bind, hr w, Result.andThen_ok, Sem.run_pure]
end
section
variable {x u : Operand}
theorem eqS_v {b : Bool} {F G : Nat → Nat} (h : eqD F G = b) (w : World) : (do eqGuard .eql 27 x u (.agg (ab 32 F)) (.agg (ab 32 G)); binOp .eql 27 (.agg (ab 32 F)) (.agg (ab 32 G))).run Tryd.prog w = .ok (.bool b) w := by
  rw [eqS, h]
theorem eqN_t (w : World) : (do eqGuard .eql 29 x (.const .nilIface) .nilIface .nilIface; binOp .eql 29 .nilIface .nilIface).run Tryd.prog w = .ok (.bool true) w := by
  cases x <;> kernel_rfl
theorem eqN_f (k : Int) (w : World) : (do eqGuard .eql 29 x (.const .nilIface) (ev k) .nilIface; binOp .eql 29 (ev k) .nilIface).run Tryd.prog w = .ok (.bool false) w := by
  cases x <;> kernel_rfl
end
end Go.Proofs.YtdofoampjlebbaaDoor

namespace Go.Proofs.YtdofoampjlebbaaDoor
end Go.Proofs.YtdofoampjlebbaaDoor

namespace Go.Proofs.YtdofoampjlebbaaDoor
open Go.RowKit Go.Shelf Sh

end Go.Proofs.YtdofoampjlebbaaDoor

namespace Go.Proofs.YtdofoampjlebbaaDoor
open Go.RowKit Sh

theorem wayN_fuel : ∀ (q q' i f e : Nat), e - f ≤ q → e - f ≤ q' → wayN q i f e = wayN q' i f e
  | 0, q', i, f, e, h, _ => by rw [wayN_0 (by omega), wayN_0 (by omega)]
  | q + 1, 0, i, f, e, _, h => by rw [wayN_0 (by omega), wayN_0 (by omega)]
  | q + 1, q' + 1, i, f, e, h, h' => by
    rcases Nat.lt_or_ge (f + 1) e with hl | hl
    · have hc := cut_in (n := e - f) (by omega)
      rw [wayN_s hl, wayN_s hl, wayN_fuel q q' i (f + cut (e - f)) e (by omega) (by omega), wayN_fuel q q' i f (f + cut (e - f)) (by omega) (by omega)]
    · rw [wayN_0 hl, wayN_0 hl]
def sh (s : Nat) (c : Cu) : Cu := ⟨c.f + s, c.a + s, c.e + s, c.r⟩
theorem wayN_sh (s : Nat) : ∀ (q i f e : Nat), wayN q (i + s) (f + s) (e + s) = (wayN q i f e).map (sh s)
  | 0, _, _, _ => rfl
  | q + 1, i, f, e => by
    rcases Nat.lt_or_ge (f + 1) e with hl | hl
    · rw [wayN_s hl, wayN_s (by omega), show e + s - (f + s) = e - f by omega, show f + s + cut (e - f) = f + cut (e - f) + s by omega, wayN_sh s q i (f + cut (e - f)) e, wayN_sh s q i f (f + cut (e - f)), List.map_cons]
      by_cases h : f + cut (e - f) ≤ i
      · rw [if_pos (by omega), if_pos h, decide_eq_true h, decide_eq_true (by omega : f + cut (e - f) + s ≤ i + s)]; rfl
      · rw [if_neg (by omega), if_neg h, decide_eq_false h, decide_eq_false (by omega : ¬ f + cut (e - f) + s ≤ i + s)]; rfl
    · rw [wayN_0 hl, wayN_0 (by omega)]; rfl
theorem way_1 (i : Nat) : way i 1 = [] := wayN_0 (by omega)
theorem way_lo {i n : Nat} (hn : 2 ≤ n) (h : i < cut n) : way i n = ⟨0, cut n, n, false⟩ :: way i (cut n) := by
  have hc := cut_in hn
  unfold way
  obtain ⟨m, rfl⟩ : ∃ m, n = m + 1 := ⟨n - 1, by omega⟩
  rw [wayN_s (by omega), if_neg (by simp; omega), decide_eq_false (by simp; omega)]
  simp only [Nat.sub_zero, Nat.zero_add]
  rw [wayN_fuel m (cut (m + 1)) i 0 (cut (m + 1)) (by omega) (by omega)]
theorem way_hi {i n : Nat} (hn : 2 ≤ n) (h : cut n ≤ i) : way i n = ⟨0, cut n, n, true⟩ :: (way (i - cut n) (n - cut n)).map (sh (cut n)) := by
  have hc := cut_in hn
  unfold way
  obtain ⟨m, rfl⟩ : ∃ m, n = m + 1 := ⟨n - 1, by omega⟩
  rw [wayN_s (by omega), if_pos (by simp; omega), decide_eq_true (by simp; omega)]
  simp only [Nat.sub_zero, Nat.zero_add]
  rw [wayN_fuel m (m + 1 - cut (m + 1)) i (cut (m + 1)) (m + 1) (by omega) (by omega)]
  have := wayN_sh (cut (m + 1)) (m + 1 - cut (m + 1)) (i - cut (m + 1)) 0 (m + 1 - cut (m + 1))
  rw [show i - cut (m + 1) + cut (m + 1) = i by omega, Nat.zero_add, show m + 1 - cut (m + 1) + cut (m + 1) = m + 1 by omega] at this
  rw [this]
theorem part_sh (L : List (Nat → Nat)) (s f e : Nat) : part L (f + s) (e + s) = part (L.drop s) f e := by
  unfold part
  rw [List.take_drop, List.drop_drop, Nat.add_comm s e, Nat.add_comm s f]
theorem asd_sh (L : List (Nat → Nat)) (s : Nat) (c : Cu) : asd L (sh s c) = asd (L.drop s) c := by
  unfold asd sh
  cases c.r
  · simp only [Bool.false_eq_true, if_false]; rw [part_sh]
  · simp only [if_true]; rw [part_sh]
theorem part_lo {L : List (Nat → Nat)} {k f e : Nat} (h : e ≤ k) : part (L.take k) f e = part L f e := by
  unfold part; rw [List.take_take, Nat.min_eq_left h]
theorem asd_lo {L : List (Nat → Nat)} {k : Nat} {c : Cu} (h : CuOk k c) : asd (L.take k) c = asd L c := by
  obtain ⟨h1, h2, h3⟩ := h
  unfold asd
  rw [part_lo (by omega), part_lo h3]
theorem asl_map (L : List (Nat → Nat)) (s : Nat) (xs : List Cu) : asl L (xs.map (sh s)) = asl (L.drop s) xs := by
  unfold asl
  rw [← List.map_reverse, List.map_map]
  exact List.map_congr_left fun c _ => asd_sh L s c
theorem asl_cons (L : List (Nat → Nat)) (c : Cu) (xs : List Cu) : asl L (c :: xs) = asl L xs ++ [asd L c] := by unfold asl; simp
theorem asl_lo {L : List (Nat → Nat)} {i n : Nat} (hL : L.length = n) (hn : 2 ≤ n) (h : i < cut n) : asl L (way i n) = asl (L.take (cut n)) (way i (cut n)) ++ [root (L.drop (cut n))] := by
  have hc := cut_in hn
  rw [way_lo hn h, asl_cons]
  congr 1
  · unfold asl
    exact List.map_congr_left fun c hc' => (asd_lo (way_ok i (cut n) c (List.mem_reverse.1 hc'))).symm
  · unfold asd part
    simp only [Bool.false_eq_true, if_false]
    rw [List.take_of_length_le (by omega)]
theorem asl_hi {L : List (Nat → Nat)} {i n : Nat} (hn : 2 ≤ n) (h : cut n ≤ i) : asl L (way i n) = asl (L.drop (cut n)) (way (i - cut n) (n - cut n)) ++ [root (L.take (cut n))] := by
  rw [way_hi hn h, asl_cons, asl_map]
  congr 1
theorem comeL_map (s : Nat) : ∀ (cs : List Cu) (ps : List (Nat → Nat)) (F : Nat → Nat), comeL (cs.map (sh s)) ps F = comeL cs ps F
  | [], [], _ => rfl
  | [], _ :: _, _ => rfl
  | _ :: _, [], _ => rfl
  | c :: cs, p :: ps, F => comeL_map s cs ps (jn c.r F p)
theorem asl_len (L : List (Nat → Nat)) (xs : List Cu) : (asl L xs).length = xs.length := by unfold asl; simp
/-- What a path comes to, by the document's recursion. -/
theorem come_lo {i n : Nat} {ps : List (Nat → Nat)} {p F : Nat → Nat} (hn : 2 ≤ n) (h : i < cut n) (hl : ps.length = (way i (cut n)).length) : comeL (way i n).reverse (ps ++ [p]) F = nd (comeL (way i (cut n)).reverse ps F) p := by
  rw [way_lo hn h, List.reverse_cons, comeL_snoc _ _ _ _ _ (by rw [List.length_reverse]; exact hl.symm)]; rfl
theorem come_hi {i n : Nat} {ps : List (Nat → Nat)} {p F : Nat → Nat} (hn : 2 ≤ n) (h : cut n ≤ i) (hl : ps.length = (way (i - cut n) (n - cut n)).length) : comeL (way i n).reverse (ps ++ [p]) F = nd p (comeL (way (i - cut n) (n - cut n)).reverse ps F) := by
  rw [way_hi hn h, List.reverse_cons, comeL_snoc _ _ _ _ _ (by rw [List.length_reverse, List.length_map]; exact hl.symm), ← List.map_reverse, comeL_map]; rfl
theorem come_root : ∀ (n i : Nat) (L : List (Nat → Nat)), L.length = n → i < n → comeL (way i n).reverse (asl L (way i n)) (L.getD i fun _ => 0) = root L := by
  intro n
  induction n using Nat.strongRecOn with
  | ind n ih =>
    intro i L hL hi
    rcases Nat.lt_or_ge n 2 with h2 | h2
    · obtain rfl : n = 1 := by omega
      obtain rfl : i = 0 := by omega
      obtain ⟨x, rfl⟩ : ∃ x, L = [x] := List.length_eq_one_iff.1 hL
      rw [way_1, root_1]; rfl
    · have hc := cut_in h2
      rw [root_n (by omega), hL]
      rcases Nat.lt_or_ge i (cut n) with h | h
      · rw [asl_lo hL h2 h, come_lo h2 h (by rw [asl_len]), ← ih (cut n) hc.2.1 i (L.take (cut n)) (by rw [List.length_take]; omega) h]
        congr 2
        simp [List.getD_eq_getElem?_getD, h]
      · rw [asl_hi h2 h, come_hi h2 h (by rw [asl_len]), ← ih (n - cut n) (by omega) (i - cut n) (L.drop (cut n)) (by rw [List.length_drop]; omega) (by omega)]
        congr 2
        simp [List.getD_eq_getElem?_getD, List.getElem?_drop, show cut n + (i - cut n) = i by omega]
theorem way_len_lo {i n : Nat} (hn : 2 ≤ n) (h : i < cut n) : (way i n).length = 1 + (way i (cut n)).length := by rw [way_lo hn h, List.length_cons]; omega
theorem way_len_hi {i n : Nat} (hn : 2 ≤ n) (h : cut n ≤ i) : (way i n).length = 1 + (way (i - cut n) (n - cut n)).length := by rw [way_hi hn h, List.length_cons, List.length_map]; omega
end Go.Proofs.YtdofoampjlebbaaDoor

namespace Go.Proofs.YtdofoampjlebbaaDoor
open Go.RowKit Sh

theorem wayN_top {q i f e : Nat} (h : f + 1 < e) : ∃ r, wayN (q + 1) i f e = ⟨f, f + cut (e - f), e, decide (f + cut (e - f) ≤ i)⟩ :: r := ⟨_, wayN_s h⟩
theorem ahead_eq {n : Nat} (hn : 1 ≤ n) : aheadL n n = [] := by
  unfold aheadL
  rcases Nat.lt_or_ge n 2 with h | h
  · obtain rfl : n = 1 := by omega
    rw [way_1]; rfl
  · rcases Nat.lt_or_ge (n - 1) (cut n) with h1 | h1
    · rw [way_lo h h1, List.takeWhile_cons]; simp
    · rw [way_hi h h1, List.takeWhile_cons]; simp
theorem ahead_lo {m n : Nat} (hm : 1 ≤ m) (hn : 2 ≤ n) (h : m ≤ cut n) : aheadL m n = ⟨0, cut n, n, false⟩ :: aheadL m (cut n) := by
  have hc := cut_in hn
  unfold aheadL
  rw [way_lo hn (by omega), List.takeWhile_cons]
  rw [if_pos (by simp; omega)]
theorem tw_map (s : Nat) (p q : Cu → Bool) (h : ∀ c, p (sh s c) = q c) : ∀ xs : List Cu, (xs.map (sh s)).takeWhile p = (xs.takeWhile q).map (sh s)
  | [] => rfl
  | c :: xs => by
    rw [List.map_cons, List.takeWhile_cons, List.takeWhile_cons, h c]
    cases q c
    · rfl
    · simp only [if_true, List.map_cons]; rw [tw_map s p q h xs]
theorem ahead_hi {m n : Nat} (hmn : m < n) (hn : 2 ≤ n) (h : cut n < m) : aheadL m n = ⟨0, cut n, n, true⟩ :: (aheadL (m - cut n) (n - cut n)).map (sh (cut n)) := by
  have hc := cut_in hn
  unfold aheadL
  rw [way_hi hn (by omega), List.takeWhile_cons, if_pos (by simp; omega), show m - 1 - cut n = m - cut n - 1 by omega]
  congr 1
  refine tw_map _ _ _ (fun c => ?_) _
  show (!(c.e + cut n == m)) = !(c.e == m - cut n)
  congr 1
  rw [Bool.eq_iff_iff, beq_iff_eq, beq_iff_eq]
  omega
/-- Where the part begins, from s on. -/
def stG (s : Nat) (xs : List Cu) : Nat := xs.foldl (fun s c => if c.r then c.a else s) s
theorem stG_sh (k : Nat) : ∀ (xs : List Cu) (s : Nat), stG (s + k) (xs.map (sh k)) = stG s xs + k
  | [], _ => rfl
  | c :: xs, s => by
    show stG (if c.r then c.a + k else s + k) (xs.map (sh k)) = stG (if c.r then c.a else s) xs + k
    cases c.r
    · exact stG_sh k xs s
    · exact stG_sh k xs c.a
theorem st_eq {n : Nat} (hn : 1 ≤ n) : stF (aheadL n n) = 0 := by rw [ahead_eq hn]; rfl
theorem st_lo {m n : Nat} (hm : 1 ≤ m) (hn : 2 ≤ n) (h : m ≤ cut n) : stF (aheadL m n) = stF (aheadL m (cut n)) := by rw [ahead_lo hm hn h]; rfl
theorem st_hi {m n : Nat} (hmn : m < n) (hn : 2 ≤ n) (h : cut n < m) : stF (aheadL m n) = stF (aheadL (m - cut n) (n - cut n)) + cut n := by
  rw [ahead_hi hmn hn h]
  show stG (cut n) _ = _
  have := stG_sh (cut n) (aheadL (m - cut n) (n - cut n)) 0
  rw [Nat.zero_add] at this
  exact this
/-- The proof that the first m are the beginning. -/
def beg (L : List (Nat → Nat)) (m n : Nat) (all : Bool) : List (Nat → Nat) := (if all && decide (stF (aheadL m n) = 0) then [] else [root (part L (stF (aheadL m n)) m)]) ++ asl L (aheadL m n)
theorem beg_eq {L : List (Nat → Nat)} {n : Nat} (hL : L.length = n) (hn : 1 ≤ n) (all : Bool) : beg L n n all = if all then [] else [root L] := by
  unfold beg
  rw [st_eq hn, ahead_eq hn]
  have : part L 0 n = L := by unfold part; rw [List.take_of_length_le (by omega)]; rfl
  rw [this]
  cases all <;> rfl
theorem st_lt : ∀ (n m : Nat), 1 ≤ m → m ≤ n → stF (aheadL m n) < m := by
  intro n
  induction n using Nat.strongRecOn with
  | ind n ih =>
    intro m hm hmn
    rcases Nat.lt_or_ge m n with h | h
    · have hc := cut_in (n := n) (by omega)
      rcases Nat.lt_or_ge (cut n) m with h1 | h1
      · rw [st_hi h (by omega) h1]
        have := ih (n - cut n) (by omega) (m - cut n) (by omega) (by omega)
        omega
      · rw [st_lo hm (by omega) h1]
        exact ih (cut n) hc.2.1 m hm h1
    · obtain rfl : m = n := by omega
      rw [st_eq hm]; omega
theorem beg_lo {L : List (Nat → Nat)} {m n : Nat} (hL : L.length = n) (hm : 1 ≤ m) (hn : 2 ≤ n) (h : m ≤ cut n) (all : Bool) : beg L m n all = beg (L.take (cut n)) m (cut n) all ++ [root (L.drop (cut n))] := by
  have hc := cut_in hn
  unfold beg
  rw [st_lo hm hn h, part_lo h, ahead_lo hm hn h, asl_cons, ← List.append_assoc]
  congr 1
  · congr 1
    unfold asl
    exact List.map_congr_left fun c hc' => (asd_lo (ahead_ok m (cut n) c (List.mem_reverse.1 hc'))).symm
  · unfold asd part
    simp only [Bool.false_eq_true, if_false]
    rw [List.take_of_length_le (by omega)]
theorem beg_hi {L : List (Nat → Nat)} {m n : Nat} (hmn : m < n) (hn : 2 ≤ n) (h : cut n < m) (all : Bool) : beg L m n all = beg (L.drop (cut n)) (m - cut n) (n - cut n) false ++ [root (L.take (cut n))] := by
  have hc := cut_in hn
  unfold beg
  rw [st_hi hmn hn h, ahead_hi hmn hn h, asl_cons, asl_map, ← List.append_assoc]
  have hp : part L (stF (aheadL (m - cut n) (n - cut n)) + cut n) m = part (L.drop (cut n)) (stF (aheadL (m - cut n) (n - cut n))) (m - cut n) := by
    rw [← part_sh, show m - cut n + cut n = m by omega]
  rw [hp]
  congr 1
  congr 1
  rw [decide_eq_false (by omega : ¬ stF (aheadL (m - cut n) (n - cut n)) + cut n = 0)]
  cases all <;> rfl
end Go.Proofs.YtdofoampjlebbaaDoor

namespace Go.Proofs.YtdofoampjlebbaaDoor
open Go.RowKit Sh

theorem cut_same {m n : Nat} (h : cut n < m) (hn : 2 ≤ n) (hmn : m ≤ n) : cut m = cut n := by
  have hc := cut_in hn
  have he : cut n = 2 ^ (n - 1).log2 := if_neg (by omega)
  rw [he] at h hc ⊢
  exact cut_of h (by omega)
/-- What the first m come to: cuts on whose left side the way goes on are left out. -/
def firstL : List Cu → List (Nat → Nat) → (Nat → Nat) → (Nat → Nat)
  | c :: cs, p :: ps, F => firstL cs ps (if c.r then jn c.r F p else F)
  | _, _, F => F
theorem firstL_snoc : ∀ (cs : List Cu) (ps : List (Nat → Nat)) (F : Nat → Nat) (c : Cu) (p : Nat → Nat), cs.length = ps.length → firstL (cs ++ [c]) (ps ++ [p]) F = if c.r then jn c.r (firstL cs ps F) p else firstL cs ps F
  | [], [], F, c, p, _ => rfl
  | c' :: cs, p' :: ps, F, c, p, h => firstL_snoc cs ps _ c p (by simpa using h)
  | [], _ :: _, _, _, _, h => by simp at h
  | _ :: _, [], _, _, _, h => by simp at h
theorem firstL_map (s : Nat) : ∀ (cs : List Cu) (ps : List (Nat → Nat)) (F : Nat → Nat), firstL (cs.map (sh s)) ps F = firstL cs ps F
  | [], [], _ => rfl
  | [], _ :: _, _ => rfl
  | _ :: _, [], _ => rfl
  | c :: cs, p :: ps, F => firstL_map s cs ps (if c.r then jn c.r F p else F)
theorem all_lo {m n : Nat} {ps : List (Nat → Nat)} {p F : Nat → Nat} (hm : 1 ≤ m) (hn : 2 ≤ n) (h : m ≤ cut n) (hl : ps.length = (aheadL m (cut n)).length) : comeL (aheadL m n).reverse (ps ++ [p]) F = nd (comeL (aheadL m (cut n)).reverse ps F) p := by
  rw [ahead_lo hm hn h, List.reverse_cons, comeL_snoc _ _ _ _ _ (by rw [List.length_reverse]; exact hl.symm)]; rfl
theorem all_hi {m n : Nat} {ps : List (Nat → Nat)} {p F : Nat → Nat} (hmn : m < n) (hn : 2 ≤ n) (h : cut n < m) (hl : ps.length = (aheadL (m - cut n) (n - cut n)).length) : comeL (aheadL m n).reverse (ps ++ [p]) F = nd p (comeL (aheadL (m - cut n) (n - cut n)).reverse ps F) := by
  rw [ahead_hi hmn hn h, List.reverse_cons, comeL_snoc _ _ _ _ _ (by rw [List.length_reverse, List.length_map]; exact hl.symm), ← List.map_reverse, comeL_map]; rfl
theorem fst_lo {m n : Nat} {ps : List (Nat → Nat)} {p F : Nat → Nat} (hm : 1 ≤ m) (hn : 2 ≤ n) (h : m ≤ cut n) (hl : ps.length = (aheadL m (cut n)).length) : firstL (aheadL m n).reverse (ps ++ [p]) F = firstL (aheadL m (cut n)).reverse ps F := by
  rw [ahead_lo hm hn h, List.reverse_cons, firstL_snoc _ _ _ _ _ (by rw [List.length_reverse]; exact hl.symm)]; rfl
theorem fst_hi {m n : Nat} {ps : List (Nat → Nat)} {p F : Nat → Nat} (hmn : m < n) (hn : 2 ≤ n) (h : cut n < m) (hl : ps.length = (aheadL (m - cut n) (n - cut n)).length) : firstL (aheadL m n).reverse (ps ++ [p]) F = nd p (firstL (aheadL (m - cut n) (n - cut n)).reverse ps F) := by
  rw [ahead_hi hmn hn h, List.reverse_cons, firstL_snoc _ _ _ _ _ (by rw [List.length_reverse, List.length_map]; exact hl.symm), ← List.map_reverse, firstL_map]; rfl
/-- What the proof leaves out, or begins with. -/
def pt0 (L : List (Nat → Nat)) (m n : Nat) : Nat → Nat := root (part L (stF (aheadL m n)) m)
theorem pt0_lo {L : List (Nat → Nat)} {m n : Nat} (hm : 1 ≤ m) (hn : 2 ≤ n) (h : m ≤ cut n) : pt0 L m n = pt0 (L.take (cut n)) m (cut n) := by
  unfold pt0; rw [st_lo hm hn h, part_lo h]
theorem pt0_hi {L : List (Nat → Nat)} {m n : Nat} (hmn : m < n) (hn : 2 ≤ n) (h : cut n < m) : pt0 L m n = pt0 (L.drop (cut n)) (m - cut n) (n - cut n) := by
  unfold pt0
  rw [st_hi hmn hn h, ← part_sh, show m - cut n + cut n = m by omega]
theorem aslA_lo {L : List (Nat → Nat)} {m n : Nat} (hL : L.length = n) (hm : 1 ≤ m) (hn : 2 ≤ n) (h : m ≤ cut n) : asl L (aheadL m n) = asl (L.take (cut n)) (aheadL m (cut n)) ++ [root (L.drop (cut n))] := by
  have hc := cut_in hn
  rw [ahead_lo hm hn h, asl_cons]
  congr 1
  · unfold asl
    exact List.map_congr_left fun c hc' => (asd_lo (ahead_ok m (cut n) c (List.mem_reverse.1 hc'))).symm
  · unfold asd part
    simp only [Bool.false_eq_true, if_false]
    rw [List.take_of_length_le (by omega)]
theorem aslA_hi {L : List (Nat → Nat)} {m n : Nat} (hmn : m < n) (hn : 2 ≤ n) (h : cut n < m) : asl L (aheadL m n) = asl (L.drop (cut n)) (aheadL (m - cut n) (n - cut n)) ++ [root (L.take (cut n))] := by
  rw [ahead_hi hmn hn h, asl_cons, asl_map]
  congr 1
theorem both_root : ∀ (n m : Nat) (L : List (Nat → Nat)), L.length = n → 1 ≤ m → m ≤ n →
    comeL (aheadL m n).reverse (asl L (aheadL m n)) (pt0 L m n) = root L ∧ firstL (aheadL m n).reverse (asl L (aheadL m n)) (pt0 L m n) = root (L.take m) := by
  intro n
  induction n using Nat.strongRecOn with
  | ind n ih =>
    intro m L hL hm hmn
    rcases Nat.lt_or_ge m n with hlt | hge
    · have h2 : 2 ≤ n := by omega
      have hc := cut_in h2
      rcases Nat.lt_or_ge (cut n) m with h | h
      · obtain ⟨i1, i2⟩ := ih (n - cut n) (by omega) (m - cut n) (L.drop (cut n)) (by rw [List.length_drop]; omega) (by omega) (by omega)
        rw [aslA_hi hlt h2 h, all_hi hlt h2 h (by rw [asl_len]), fst_hi hlt h2 h (by rw [asl_len]), pt0_hi hlt h2 h, i1, i2]
        refine ⟨by rw [root_n (l := L) (by omega), hL], ?_⟩
        have hlm : (L.take m).length = m := by rw [List.length_take]; omega
        rw [root_n (l := L.take m) (by omega), hlm, cut_same h h2 hmn, List.take_take, Nat.min_eq_left (by omega), List.take_drop, show cut n + (m - cut n) = m by omega]
      · obtain ⟨i1, i2⟩ := ih (cut n) hc.2.1 m (L.take (cut n)) (by rw [List.length_take]; omega) hm h
        rw [aslA_lo hL hm h2 h, all_lo hm h2 h (by rw [asl_len]), fst_lo hm h2 h (by rw [asl_len]), pt0_lo hm h2 h, i1, i2]
        refine ⟨by rw [root_n (l := L) (by omega), hL], by rw [List.take_take, Nat.min_eq_left h]⟩
    · obtain rfl : m = n := by omega
      have hp : pt0 L m m = root L := by
        unfold pt0; rw [st_eq hm]
        have : part L 0 m = L := by unfold part; rw [List.take_of_length_le (by omega)]; rfl
        rw [this]
      rw [ahead_eq hm, hp, List.take_of_length_le (by omega)]
      exact ⟨rfl, rfl⟩
end Go.Proofs.YtdofoampjlebbaaDoor

namespace Go.Proofs.YtdofoampjlebbaaDoor
open Go.RowKit Sh

theorem part_take {L : List (Nat → Nat)} {f c e : Nat} (h : f + c ≤ e) : (part L f e).take c = part L f (f + c) := by
  unfold part
  rw [List.take_drop, List.take_take, Nat.min_eq_left (by omega)]
theorem part_drop {L : List (Nat → Nat)} {f c e : Nat} : (part L f e).drop c = part L (f + c) e := by
  unfold part
  rw [List.drop_drop]
theorem part_app {L M : List (Nat → Nat)} {f e : Nat} (h : e ≤ L.length) : part (L ++ M) f e = part L f e := by
  unfold part
  rw [List.take_append_of_le_length h]
theorem part_take0 {L : List (Nat → Nat)} {n f e : Nat} (h : e ≤ n) : part (L.take n) f e = part L f e := by
  unfold part
  rw [List.take_take, Nat.min_eq_left h]
theorem part_0 (L : List (Nat → Nat)) (n : Nat) : part L 0 n = L.take n := by unfold part; rw [List.drop_zero]
theorem part_one {L : List (Nat → Nat)} {i : Nat} (h : i < L.length) : part L i (i + 1) = [L[i]] := by
  unfold part
  rw [List.take_succ_eq_append_getElem h, List.drop_append_of_le_length (by rw [List.length_take]; omega), List.drop_of_length_le (by rw [List.length_take]; omega), List.nil_append]
/-- A part of more than one is cut in two. -/
theorem root_part {L : List (Nat → Nat)} {f e : Nat} (h : f + 2 ≤ e) (he : e ≤ L.length) : root (part L f e) = nd (root (part L f (f + cut (e - f)))) (root (part L (f + cut (e - f)) e)) := by
  have hl := part_len (f := f) he
  have hc := cut_in (n := e - f) (by omega)
  rw [root_n (by rw [hl]; omega), hl, part_take (by omega), part_drop]
theorem cut_pow {n k : Nat} (h : n = 2 ^ (k + 1)) : cut n = 2 ^ k := by
  have h0 : 1 ≤ 2 ^ k := Nat.one_le_two_pow
  rw [Nat.pow_succ] at h
  exact cut_of (by omega) (by omega)
theorem root_two {L : List (Nat → Nat)} {f e k : Nat} (h : e = f + 2 ^ (k + 1)) (he : e ≤ L.length) : root (part L f e) = nd (root (part L f (f + 2 ^ k))) (root (part L (f + 2 ^ k) e)) := by
  have h0 : 1 ≤ 2 ^ k := Nat.one_le_two_pow
  have hs : 2 ^ (k + 1) = 2 ^ k * 2 := Nat.pow_succ ..
  rw [root_part (by omega) he, cut_pow (n := e - f) (k := k) (by omega)]
/-- The digests of a level. -/
def lvl (L : List (Nat → Nat)) (k : Nat) : List (Nat → Nat) := (List.range (L.length / 2 ^ k)).map fun i => root (part L (2 ^ k * i) (2 ^ k * (i + 1)))
theorem lvl_len (L : List (Nat → Nat)) (k : Nat) : (lvl L k).length = L.length / 2 ^ k := by simp [lvl]
theorem lvl_get {L : List (Nat → Nat)} {k i : Nat} (h : i < (lvl L k).length) : (lvl L k)[i] = root (part L (2 ^ k * i) (2 ^ k * (i + 1))) := by simp [lvl]
theorem lvl_0 (L : List (Nat → Nat)) : lvl L 0 = L := by
  apply List.ext_getElem
  · rw [lvl_len]; simp
  · intro i h1 h2
    rw [lvl_get, Nat.pow_zero, Nat.one_mul, Nat.one_mul, part_one h2, root_1]
theorem lvl_ap {L M : List (Nat → Nat)} {k m : Nat} (h : 2 ^ k * m ≤ L.length) : ((List.range m).map fun i => root (part (L ++ M) (2 ^ k * i) (2 ^ k * (i + 1)))) = (List.range m).map fun i => root (part L (2 ^ k * i) (2 ^ k * (i + 1))) := by
  refine List.map_congr_left fun i hi => ?_
  have hi := List.mem_range.1 hi
  have h1 : 2 ^ k * (i + 1) ≤ 2 ^ k * m := Nat.mul_le_mul_left _ (by omega)
  rw [part_app (by omega)]
theorem div_same {n p : Nat} (_hp : 1 ≤ p) (h : ¬ p ∣ n + 1) : (n + 1) / p = n / p := by
  rw [Nat.succ_div, if_neg h]; omega
theorem div_more {n p : Nat} (_hp : 1 ≤ p) (h : p ∣ n + 1) : (n + 1) / p = n / p + 1 := by
  rw [Nat.succ_div, if_pos h]
theorem lvl_same {L : List (Nat → Nat)} {d : Nat → Nat} {k : Nat} (h : ¬ 2 ^ k ∣ L.length + 1) : lvl (L ++ [d]) k = lvl L k := by
  have h0 : 1 ≤ 2 ^ k := Nat.one_le_two_pow
  unfold lvl
  rw [List.length_append, List.length_singleton, div_same h0 h]
  exact lvl_ap (Nat.mul_div_le _ _)
theorem lvl_snoc {L : List (Nat → Nat)} {d : Nat → Nat} {k : Nat} (h : 2 ^ k ∣ L.length + 1) : lvl (L ++ [d]) k = lvl L k ++ [root (part (L ++ [d]) (L.length + 1 - 2 ^ k) (L.length + 1))] := by
  have h0 : 1 ≤ 2 ^ k := Nat.one_le_two_pow
  unfold lvl
  rw [List.length_append, List.length_singleton, div_more h0 h, List.range_succ, List.map_append, lvl_ap (Nat.mul_div_le _ _)]
  have e1 : 2 ^ k * (L.length / 2 ^ k + 1) = L.length + 1 := by
    rw [← div_more h0 h]; exact Nat.mul_div_cancel' h
  have e2 : 2 ^ k * (L.length / 2 ^ k) = L.length + 1 - 2 ^ k := by
    rw [Nat.mul_add, Nat.mul_one] at e1; omega
  simp only [List.map_cons, List.map_nil, e1, e2]
/-- How many levels there are. -/
def lvs (n : Nat) : Nat := if n = 0 then 0 else n.log2 + 1
theorem lvs_lt {n k : Nat} : k < lvs n ↔ 2 ^ k ≤ n := by
  unfold lvs
  by_cases h : n = 0
  · subst h; rw [if_pos rfl]
    have h0 : 1 ≤ 2 ^ k := Nat.one_le_two_pow
    omega
  · rw [if_neg h, Nat.lt_succ_iff, Nat.le_log2 h]
theorem lvl_none {L : List (Nat → Nat)} {k : Nat} (h : lvs L.length ≤ k) : lvl L k = [] := by
  have h1 : ¬ 2 ^ k ≤ L.length := fun e => by have := lvs_lt.2 e; omega
  unfold lvl
  rw [Nat.div_eq_of_lt (by omega)]; rfl
/-- The digest of what is put on a level. -/
def newd (L : List (Nat → Nat)) (d : Nat → Nat) (k : Nat) : Nat → Nat := root (part (L ++ [d]) (L.length + 1 - 2 ^ k) (L.length + 1))
theorem newd_0 (L : List (Nat → Nat)) (d : Nat → Nat) : newd L d 0 = d := by
  unfold newd
  rw [Nat.pow_zero, Nat.add_sub_cancel, part_one (by simp), List.getElem_append_right (by simp)]
  simp [root_1]
theorem newd_s {L : List (Nat → Nat)} {d : Nat → Nat} {k : Nat} (h : 2 ^ (k + 1) ∣ L.length + 1) : ∃ x, (lvl L k).getLast? = some x ∧ newd L d (k + 1) = nd x (newd L d k) := by
  have h0 : 1 ≤ 2 ^ k := Nat.one_le_two_pow
  have hs : 2 ^ (k + 1) = 2 ^ k * 2 := Nat.pow_succ ..
  have hle := Nat.le_of_dvd (by omega) h
  have hd : 2 ^ k ∣ L.length + 1 := Nat.dvd_trans ⟨2, hs⟩ h
  have hn := div_more h0 hd
  obtain ⟨q, hq⟩ := h
  have e3 : (L.length + 1) / 2 ^ k = 2 * q := by rw [hq, hs, Nat.mul_assoc]; exact Nat.mul_div_cancel_left _ (by omega)
  have hq1 : 1 ≤ q := by rcases Nat.eq_zero_or_pos q with e | e; · rw [e] at hq; omega
                         · exact e
  have e4 : L.length / 2 ^ k = 2 * q - 1 := by omega
  have e5 : 2 ^ k * (2 * q) = L.length + 1 := by rw [hq, hs, Nat.mul_assoc]
  have e6 : 2 ^ k * (2 * q - 1) + 2 ^ k = L.length + 1 := by
    rw [← e5]; conv => lhs; rw [← Nat.mul_succ]
    congr 1; omega
  have e7 : 2 ^ k * (2 * q - 2) + 2 ^ (k + 1) = L.length + 1 := by
    rw [hs, ← Nat.mul_add, ← e5]; congr 1; omega
  refine ⟨root (part L (2 ^ k * (2 * q - 2)) (2 ^ k * (2 * q - 1))), ?_, ?_⟩
  · rw [List.getLast?_eq_getElem?, lvl_len, e4, List.getElem?_eq_getElem (by rw [lvl_len]; omega), lvl_get]
    congr 3 <;> congr 1 <;> omega
  · unfold newd
    rw [root_two (k := k) (by omega) (by simp), show L.length + 1 - 2 ^ (k + 1) = 2 ^ k * (2 * q - 2) by omega, show 2 ^ k * (2 * q - 2) + 2 ^ k = L.length + 1 - 2 ^ k by omega, show L.length + 1 - 2 ^ k = 2 ^ k * (2 * q - 1) by omega, part_app (by omega)]
/-- A part of so many leaves stands whole on its level. -/
theorem lvl_part {L : List (Nat → Nat)} {k f : Nat} (hd : 2 ^ k ∣ f) (he : f + 2 ^ k ≤ L.length) : ∃ h : f / 2 ^ k < (lvl L k).length, (lvl L k)[f / 2 ^ k] = root (part L f (f + 2 ^ k)) := by
  have h0 : 1 ≤ 2 ^ k := Nat.one_le_two_pow
  obtain ⟨q, rfl⟩ := hd
  have e1 : 2 ^ k * q / 2 ^ k = q := Nat.mul_div_cancel_left _ (by omega)
  have hq : q < L.length / 2 ^ k := by
    rw [Nat.lt_div_iff_mul_lt (by omega), Nat.mul_comm]
    omega
  rw [e1]
  refine ⟨by rw [lvl_len]; exact hq, ?_⟩
  rw [lvl_get, Nat.mul_add, Nat.mul_one]
end Go.Proofs.YtdofoampjlebbaaDoor

namespace Go.Proofs.YtdofoampjlebbaaDoor
open Go.RowKit Sh

/-- The same 32 bytes. -/
def Eq32 (F G : Nat → Nat) : Prop := ∀ i, i < 32 → F i = G i
theorem eq_root : ∀ (n : Nat) (L M : List (Nat → Nat)), L.length = n → M.length = n → (∀ i, i < n → Eq32 (L.getD i fun _ => 0) (M.getD i fun _ => 0)) → Eq32 (root L) (root M) := by
  intro n
  induction n using Nat.strongRecOn with
  | ind n ih =>
    intro L M hL hM h
    rcases Nat.lt_or_ge n 2 with h2 | h2
    · rcases Nat.lt_or_ge n 1 with h1 | h1
      · obtain rfl := List.eq_nil_of_length_eq_zero (show L.length = 0 by omega)
        obtain rfl := List.eq_nil_of_length_eq_zero (show M.length = 0 by omega)
        exact fun _ _ => rfl
      · obtain ⟨x, rfl⟩ : ∃ x, L = [x] := List.length_eq_one_iff.1 (by omega)
        obtain ⟨y, rfl⟩ : ∃ y, M = [y] := List.length_eq_one_iff.1 (by omega)
        rw [root_1, root_1]
        exact h 0 (by omega)
    · have hk := cut_in h2
      have g : ∀ (N : List (Nat → Nat)) (i k : Nat), (N.drop k).getD i (fun _ => 0) = N.getD (k + i) fun _ => 0 := fun N i k => by simp [List.getD_eq_getElem?_getD, List.getElem?_drop]
      have g2 : ∀ (N : List (Nat → Nat)) (i k : Nat), i < k → (N.take k).getD i (fun _ => 0) = N.getD i fun _ => 0 := fun N i k hi => by simp [List.getD_eq_getElem?_getD, hi]
      have e1 := ih (cut n) hk.2.1 (L.take (cut n)) (M.take (cut n)) (by rw [List.length_take]; omega) (by rw [List.length_take]; omega) (fun i hi => by rw [g2 _ _ _ hi, g2 _ _ _ hi]; exact h i (by omega))
      have e2 := ih (n - cut n) (by omega) (L.drop (cut n)) (M.drop (cut n)) (by rw [List.length_drop]; omega) (by rw [List.length_drop]; omega) (fun i hi => by rw [g, g]; exact h _ (by omega))
      rw [root_n (l := L) (by omega), root_n (l := M) (by omega), hL, hM]
      have : nd (root (L.take (cut n))) (root (L.drop (cut n))) = nd (root (M.take (cut n))) (root (M.drop (cut n))) := by
        refine dg_cong fun i hi => ?_
        unfold txt
        by_cases c0 : i = 0
        · rw [if_pos c0, if_pos c0]
        · rw [if_neg c0, if_neg c0]
          by_cases c1 : i < 33
          · rw [if_pos c1, if_pos c1, e1 (i - 1) (by omega)]
          · rw [if_neg c1, if_neg c1, e2 (i - 33) (by omega)]
      rw [this]
      exact fun _ _ => rfl
/-- The texts of digests of two that go into a row's digest. -/
def texts (l : List (Nat → Nat)) : List (Nat → Nat) :=
  if _h : l.length < 2 then [] else texts (l.take (cut l.length)) ++ texts (l.drop (cut l.length)) ++ [txt (root (l.take (cut l.length))) (root (l.drop (cut l.length)))]
termination_by l.length
decreasing_by
  · have := cut_in (n := l.length) (by omega); rw [List.length_take]; omega
  · have := cut_in (n := l.length) (by omega); rw [List.length_drop]; omega
theorem texts_s {l : List (Nat → Nat)} (h : l.length < 2) : texts l = [] := by rw [texts, dif_pos h]
theorem texts_n {l : List (Nat → Nat)} (h : 2 ≤ l.length) : texts l = texts (l.take (cut l.length)) ++ texts (l.drop (cut l.length)) ++ [txt (root (l.take (cut l.length))) (root (l.drop (cut l.length)))] := by
  rw [texts, dif_neg (by omega)]
theorem texts_len : ∀ (n : Nat) (l : List (Nat → Nat)), l.length = n → (texts l).length ≤ n := by
  intro n
  induction n using Nat.strongRecOn with
  | ind n ih =>
    intro l hl
    rcases Nat.lt_or_ge n 2 with h2 | h2
    · rw [texts_s (by omega)]; simp
    · have hk := cut_in h2
      rw [texts_n (by omega), hl]
      have a := ih (cut n) hk.2.1 (l.take (cut n)) (by rw [List.length_take]; omega)
      have b := ih (n - cut n) (by omega) (l.drop (cut n)) (by rw [List.length_drop]; omega)
      have c : n - 1 < n := by omega
      simp only [List.length_append, List.length_cons, List.length_nil]
      have key : ∀ (m : Nat) (k : List (Nat → Nat)), m < n → k.length = m → 1 ≤ m → (texts k).length ≤ m - 1 ∨ (texts k).length ≤ m := fun m k hm hk' _ => .inr (ih m hm k hk')
      have t1 : ∀ (m : Nat) (k : List (Nat → Nat)), k.length = m → 1 ≤ m → (texts k).length + 1 ≤ m := by
        intro m
        induction m using Nat.strongRecOn with
        | ind m ih2 =>
          intro k hk' h1
          rcases Nat.lt_or_ge m 2 with h3 | h3
          · rw [texts_s (by omega)]; simpa using h1
          · have hq := cut_in h3
            rw [texts_n (by omega), hk']
            have a := ih2 (cut m) hq.2.1 (k.take (cut m)) (by rw [List.length_take]; omega) (by omega)
            have b := ih2 (m - cut m) (by omega) (k.drop (cut m)) (by rw [List.length_drop]; omega) (by omega)
            simp only [List.length_append, List.length_cons, List.length_nil]
            omega
      have a1 := t1 (cut n) (l.take (cut n)) (by rw [List.length_take]; omega) (by omega)
      have b1 := t1 (n - cut n) (l.drop (cut n)) (by rw [List.length_drop]; omega) (by omega)
      omega
theorem texts_lt : ∀ (n : Nat) (l : List (Nat → Nat)), l.length = n → (∀ F ∈ l, ∀ j, F j < 256) → ∀ T ∈ texts l, ∀ j, T j < 256 := by
  intro n
  induction n using Nat.strongRecOn with
  | ind n ih =>
    intro l hl hb T hT j
    rcases Nat.lt_or_ge n 2 with h2 | h2
    · rw [texts_s (by omega)] at hT; cases hT
    · have hk := cut_in h2
      rw [texts_n (by omega), hl] at hT
      have b1 : ∀ F ∈ l.take (cut n), ∀ j, F j < 256 := fun F hF => hb F (List.mem_of_mem_take hF)
      have b2 : ∀ F ∈ l.drop (cut n), ∀ j, F j < 256 := fun F hF => hb F (List.mem_of_mem_drop hF)
      rcases List.mem_append.1 hT with hT | hT
      · rcases List.mem_append.1 hT with hT | hT
        · exact ih (cut n) hk.2.1 _ (by rw [List.length_take]; omega) b1 T hT j
        · exact ih (n - cut n) (by omega) _ (by rw [List.length_drop]; omega) b2 T hT j
      · rw [List.mem_singleton] at hT
        rw [hT]
        unfold txt
        split
        · decide
        · split
          · exact root_lt _ _ rfl b1 _
          · exact root_lt _ _ rfl b2 _
/-- Two unlike texts with one digest. -/
def Clash (T U : Nat → Nat) : Prop := Eq32 (dg 65 T) (dg 65 U) ∧ ∃ i, i < 65 ∧ T i ≠ U i
theorem clash : ∀ (n : Nat) (L M : List (Nat → Nat)), L.length = n → M.length = n → Eq32 (root L) (root M) → (∃ i, i < n ∧ ¬ Eq32 (L.getD i fun _ => 0) (M.getD i fun _ => 0)) → ∃ T ∈ texts L, ∃ U ∈ texts M, Clash T U := by
  intro n
  induction n using Nat.strongRecOn with
  | ind n ih =>
    intro L M hL hM hr hd
    rcases Nat.lt_or_ge n 2 with h2 | h2
    · exfalso
      obtain ⟨i, hi, hne⟩ := hd
      obtain rfl : n = 1 := by omega
      obtain rfl : i = 0 := by omega
      obtain ⟨x, rfl⟩ : ∃ x, L = [x] := List.length_eq_one_iff.1 hL
      obtain ⟨y, rfl⟩ : ∃ y, M = [y] := List.length_eq_one_iff.1 hM
      rw [root_1, root_1] at hr
      exact hne hr
    · have hk := cut_in h2
      have g : ∀ (N : List (Nat → Nat)) (i k : Nat), (N.drop k).getD i (fun _ => 0) = N.getD (k + i) fun _ => 0 := fun N i k => by simp [List.getD_eq_getElem?_getD, List.getElem?_drop]
      have g2 : ∀ (N : List (Nat → Nat)) (i k : Nat), i < k → (N.take k).getD i (fun _ => 0) = N.getD i fun _ => 0 := fun N i k hi => by simp [List.getD_eq_getElem?_getD, hi]
      rw [texts_n (l := L) (by omega), texts_n (l := M) (by omega), hL, hM]
      rw [root_n (l := L) (by omega), root_n (l := M) (by omega), hL, hM] at hr
      generalize hA1 : root (L.take (cut n)) = A1 at *
      generalize hA2 : root (L.drop (cut n)) = A2 at *
      generalize hB1 : root (M.take (cut n)) = B1 at *
      generalize hB2 : root (M.drop (cut n)) = B2 at *
      by_cases hT : ∃ i, i < 65 ∧ txt A1 A2 i ≠ txt B1 B2 i
      · exact ⟨txt A1 A2, by simp, txt B1 B2, by simp, hr, hT⟩
      · have hTe : ∀ i, i < 65 → txt A1 A2 i = txt B1 B2 i := fun i hi => Classical.byContradiction fun h => hT ⟨i, hi, h⟩
        have e1 : Eq32 A1 B1 := fun i hi => by
          have := hTe (i + 1) (by omega)
          unfold txt at this
          rwa [if_neg (by omega), if_pos (by omega), if_neg (by omega), if_pos (by omega), show i + 1 - 1 = i by omega] at this
        have e2 : Eq32 A2 B2 := fun i hi => by
          have := hTe (i + 33) (by omega)
          unfold txt at this
          rwa [if_neg (by omega), if_neg (by omega), if_neg (by omega), if_neg (by omega), show i + 33 - 33 = i by omega] at this
        obtain ⟨i, hi, hne⟩ := hd
        rcases Nat.lt_or_ge i (cut n) with hc | hc
        · obtain ⟨T, hT1, U, hU1, hcl⟩ := ih (cut n) hk.2.1 (L.take (cut n)) (M.take (cut n)) (by rw [List.length_take]; omega) (by rw [List.length_take]; omega) (by rw [hA1, hB1]; exact e1) ⟨i, hc, by rw [g2 _ _ _ hc, g2 _ _ _ hc]; exact hne⟩
          exact ⟨T, by simp [hT1], U, by simp [hU1], hcl⟩
        · obtain ⟨T, hT1, U, hU1, hcl⟩ := ih (n - cut n) (by omega) (L.drop (cut n)) (M.drop (cut n)) (by rw [List.length_drop]; omega) (by rw [List.length_drop]; omega) (by rw [hA2, hB2]; exact e2) ⟨i - cut n, by omega, by rw [g, g, show cut n + (i - cut n) = i by omega]; exact hne⟩
          exact ⟨T, by simp [hT1], U, by simp [hU1], hcl⟩
end Go.Proofs.YtdofoampjlebbaaDoor

namespace Go.Proofs.YtdofoampjlebbaaDoor
open Go.RowKit Go.Maps Sh

/-- A text of 65 bytes in a block of its own. -/
def TxV (w : World) (B : Nat) (r : Value) (T : Nat → Nat) : Prop := ∃ b c cap, r = .slice (some ⟨b, 0, none⟩) 65 cap ∧ B ≤ b ∧ 65 ≤ cap ∧ w.heap[b]? = some (.cells c 5 (0, 0)) ∧ ∀ j, j < 65 → c[j]? = some (.int .u8 ((T j : Nat) : Int))
theorem tx_own {w : World} {base B : Nat} {v : Value} {T : Nat → Nat} (hB : B ≤ base) (h : w.ownsRow base 5 1 v 65 (bvs 65 T)) : TxV w B v T := by
  rcases h.2 with ⟨_, h0⟩ | ⟨q, cap, cur, rfl, hbq, hgq, hnc, hcm, hcs, hty⟩
  · exfalso; omega
  · refine ⟨q, cur, cap, rfl, by omega, hnc, hgq, fun j hj => ?_⟩
    have h1 := h.cellAt j (by omega)
    rw [bvs_get T hj] at h1
    rw [← h1, cell_of_row _ _ _ _ _ _ hgq]
theorem TxV.later {w w' : World} {B : Nat} {r : Value} {T : Nat → Nat} (h : TxV w B r T) (hb : Below w.heap.size w w') : TxV w' B r T := by
  obtain ⟨b, c, cap, e, h1, h2, h3, h4⟩ := h
  exact ⟨b, c, cap, e, h1, h2, (hb.block b (Array.getElem?_eq_some_iff.1 h3).1).trans h3, h4⟩
theorem TxV.mono {w : World} {B B' : Nat} {r : Value} {T : Nat → Nat} (h : TxV w B r T) (hB : B' ≤ B) : TxV w B' r T := by
  obtain ⟨b, c, cap, e, h1, h2, h3, h4⟩ := h
  exact ⟨b, c, cap, e, by omega, h2, h3, h4⟩
/-- .. where a row of slices has grown. -/
theorem TxV.grown {w w' : World} {B : Nat} {r : Value} {T : Nat → Nat} {o : Option Nat} (h : TxV w B r T) (hg : w.grownBy w' o) (ho : ∀ g, o = some g → ∃ c, w.heap[g]? = some (.cells c 71 (0, 0))) : TxV w' B r T := by
  obtain ⟨b, c, cap, e, h1, h2, h3, h4⟩ := h
  refine ⟨b, c, cap, e, h1, h2, ?_, h4⟩
  have hne : some b ≠ o := by
    intro e2
    obtain ⟨c2, hc2⟩ := ho b e2.symm
    rw [h3] at hc2
    cases hc2
  exact (hg.block b (Array.getElem?_eq_some_iff.1 h3).1 hne).trans h3
theorem TxV.bs {w : World} {B : Nat} {r : Value} {T : Nat → Nat} (h : TxV w B r T) (hT : ∀ i, T i < 256) : ∃ a cap, r = .slice a 65 cap ∧ Bs w a 65 T := by
  obtain ⟨b, c, cap, e, h1, h2, h3, h4⟩ := h
  refine ⟨_, cap, e, hT, fun _ => ⟨b, 0, rfl, fun i hi => ?_⟩⟩
  rw [cell_of_row _ _ _ _ _ _ h3, Nat.zero_add]
  exact h4 i hi
/-- Texts, in the order of a row of slices. -/
def TsAt (w : World) (B : Nat) (xs : List Value) (T : List (Nat → Nat)) : Prop := xs.length = T.length ∧ ∀ i, i < T.length → TxV w B (xs.getD i undef) (T.getD i fun _ => 0)
theorem TsAt.app {w : World} {B : Nat} {xs ys : List Value} {T U : List (Nat → Nat)} (h : TsAt w B xs T) (k : TsAt w B ys U) : TsAt w B (xs ++ ys) (T ++ U) := by
  refine ⟨by rw [List.length_append, List.length_append, h.1, k.1], fun i hi => ?_⟩
  rw [List.length_append] at hi
  rcases Nat.lt_or_ge i T.length with h1 | h1
  · have := h.2 i h1
    simp only [List.getD_eq_getElem?_getD] at this ⊢
    rw [List.getElem?_append_left (by rw [h.1]; exact h1), List.getElem?_append_left h1]
    exact this
  · have := k.2 (i - T.length) (by omega)
    simp only [List.getD_eq_getElem?_getD] at this ⊢
    rw [List.getElem?_append_right (by rw [h.1]; exact h1), List.getElem?_append_right h1, h.1]
    exact this
theorem TsAt.map {w w' : World} {B B' : Nat} {xs : List Value} {T : List (Nat → Nat)} (h : TsAt w B xs T) (f : ∀ {r T}, TxV w B r T → TxV w' B' r T) : TsAt w' B' xs T := ⟨h.1, fun i hi => f (h.2 i hi)⟩
theorem TsAt.one {w : World} {B : Nat} {r : Value} {T : Nat → Nat} (h : TxV w B r T) : TsAt w B [r] [T] := ⟨rfl, fun i hi => by
  obtain rfl : i = 0 := by simp at hi; omega
  exact h⟩
theorem TsAt.none (w : World) (B : Nat) : TsAt w B [] [] := ⟨rfl, fun i hi => absurd hi (by simp)⟩
theorem info_sl : (Tryd.prog.info? 71).map (fun i => (i.zero, i.size, i.bytes)) = some (some (.slice none 0 0), 1, 24) := by kernel_rfl
theorem TsAt.cells {w : World} {B : Nat} {xs : List Value} {T : List (Nat → Nat)} (h : TsAt w B xs T) : ∀ v ∈ xs, v.oneCell' = true := by
  intro v hv
  obtain ⟨i, hi, rfl⟩ := List.getElem_of_mem hv
  obtain ⟨b, c, cap, e, _⟩ := h.2 i (by rw [← h.1]; exact hi)
  rw [List.getD_eq_getElem?_getD, List.getElem?_eq_getElem hi, Option.getD_some] at e
  rw [e]; rfl
/-- Slices are put behind a row of slices of the call's own. -/
theorem run_append_sl (w : World) (base ty : Nat) (v : Value) (n : Nat) (xs : List Value) (hown : w.ownsRow base 71 1 v n xs) (u : Value) (m : Nat) (ys : List Value) (hu : w.ownsRow 0 71 1 u m ys) (h1 : ∀ y ∈ ys, y.oneCell' = true)
    (hbytes : n + m ≤ 1000000) (hbase : base ≤ w.heap.size) :
    ∃ v' w', (Builtin.append_ #[55, 55] ty #[v, u]).run Tryd.prog w = .ok v' w' ∧ w'.ownsRow base 71 1 v' (n + m) (xs ++ ys) ∧ w.grownBy w' v.ownBlock := by
  obtain ⟨i0, hi, hz0, hz1, hz2⟩ := info_parts info_sl
  rcases hu.2 with ⟨rfl, rfl⟩ | ⟨gu, cu, curu, rfl, _, hgu, hnu, _, hcsu, htu⟩
  · obtain rfl : ys = [] := List.eq_nil_of_length_eq_zero (by rw [hu.1])
    refine ⟨v, w, ?_, by simpa using hown, ⟨rfl, rfl, rfl, Nat.le_refl _, fun _ _ _ => rfl⟩⟩
    rcases hown.2 with ⟨rfl, rfl⟩ | ⟨g, cap, cur, rfl, _, _, hnc, _⟩
    · simp [Builtin.append_, run_underlying Tryd.underlying55, sizeOf, typeInfo, hi, Builtin.lenOf, Builtin.firstCells]
    · simp [Builtin.append_, run_underlying Tryd.underlying55, sizeOf, typeInfo, hi, Builtin.lenOf, Builtin.firstCells, hnc, storeCells]
  · have hnews : ∀ j x, ys[j]? = some x → w.cell? ((⟨gu, 0, none⟩ : Addr).add j) = some x := by
      intro j x hj
      rw [← htu, List.getElem?_take] at hj
      split at hj
      · rw [Addr.add_lit, cell_of_row _ _ _ _ _ _ hgu, Nat.zero_add, ← Array.getElem?_toList]; exact hj
      · cases hj
    obtain ⟨v', w', hr, h4, h5, _, h6⟩ := run_append_own_at (P := Tryd.prog) w base 55 ty 71 i0 _ 1 24 Tryd.underlying55 hi hz0 hz1 hz2 rfl (by decide) v n xs hown ⟨gu, 0, none⟩ m cu ys (by rw [hu.1]) hnews
      h1 (by unfold maxLen; omega) (by omega) hbase
    exact ⟨v', w', hr, h4, h5⟩
theorem step_append_sl {w : World} {ops : Array Oper} {o : Oper} {a : Act} {K : Act → World → Prop} {Q : Exit → Act → World → Prop} {E : Prop} (hgd : o.guard = none) (s x : Operand)
    (ho : o.op = .call { callee := .builtin .append, args := #[s, x], argTypes := #[55, 55] }) (base : Nat)
    (v : Value) (n : Nat) (xs : List Value) (hs : a.eval s = v) (hown : w.ownsRow base 71 1 v n xs) (u : Value) (m : Nat) (ys : List Value) (hx : a.eval x = u) (hu : w.ownsRow 0 71 1 u m ys) (h1 : ∀ y ∈ ys, y.oneCell' = true)
    (hbytes : n + m ≤ 1000000) (hbase : base ≤ w.heap.size)
    (h : ∀ v' w', w'.ownsRow base 71 1 v' (n + m) (xs ++ ys) → w.grownBy w' v.ownBlock → K (a.put o.dst v') w') : if Region.wanted o (yielded ops a.tmps) = true then Oper.wp Tryd.prog o a w K Q else E := by
  have hw : Region.wanted o (yielded ops a.tmps) = true := by simp [Region.wanted, hgd]
  rw [if_pos hw]
  obtain ⟨v', w', hr, h2, h3⟩ := run_append_sl w base o.type v n xs hown u m ys hu h1 hbytes hbase
  unfold Oper.wp execOp
  simp only [ho, resolve, invoke, builtin, Sem.run_bind, Sem.run_pure, Result.andThen_ok, List.map_toArray, List.map_cons, List.map_nil, hs, hx, hr]
  exact h v' w' h2 h3
/-- A call in a region that draws, whatever it answers. -/
theorem step_any1 {w : World} {ops : Array Oper} {o : Oper} {a : Act} {K : Act → World → Prop} {Q : Exit → Act → World → Prop} {E : Prop} (hgd : o.guard = none) (f : FuncId) (x : Operand) {tys : Array TypeId} (ho : o.op = .call { callee := .value (.func f), args := #[x], argTypes := tys }) {v : Value} {J : Value → World → Prop} (hx : a.eval x = v)
    (he : ∀ w, (callFunc f #[v]).run Tryd.prog w = .ok (.enter f #[v]) w) (hc : Calls Tryd.prog f #[v] w fun e w' => ∃ r, e = .returned r ∧ J r w') (h : ∀ r w', J r w' → K (a.put o.dst r) w') : if Region.wanted o (yielded ops a.tmps) = true then Oper.wp Tryd.prog o a w K Q else E := by
  have hw : Region.wanted o (yielded ops a.tmps) = true := by simp [Region.wanted, hgd]
  rw [if_pos hw]
  have hev : a.eval (.func f) = .func (.func f) #[] #[] := rfl
  have hv : #[x].map a.eval = #[v] := by simp [hx]
  unfold Oper.wp execOp
  simp only [ho, resolve, invoke, Sem.run_bind, hv, hev, Deferred.ofValue, Sem.run_pure, Result.andThen_ok, Array.append_empty, Array.empty_append, he, Oper.upon_enter]
  exact hc.mono (by rintro e w' ⟨r, rfl, hJ⟩; exact h r w' hJ)
theorem step_any2 {w : World} {ops : Array Oper} {o : Oper} {a : Act} {K : Act → World → Prop} {Q : Exit → Act → World → Prop} {E : Prop} (hgd : o.guard = none) (f : FuncId) (x y : Operand) {tys : Array TypeId} (ho : o.op = .call { callee := .value (.func f), args := #[x, y], argTypes := tys }) {v u : Value} {J : Value → World → Prop} (hx : a.eval x = v) (hy : a.eval y = u)
    (he : ∀ w, (callFunc f #[v, u]).run Tryd.prog w = .ok (.enter f #[v, u]) w) (hc : Calls Tryd.prog f #[v, u] w fun e w' => ∃ r, e = .returned r ∧ J r w') (h : ∀ r w', J r w' → K (a.put o.dst r) w') : if Region.wanted o (yielded ops a.tmps) = true then Oper.wp Tryd.prog o a w K Q else E := by
  have hw : Region.wanted o (yielded ops a.tmps) = true := by simp [Region.wanted, hgd]
  rw [if_pos hw]
  have hev : a.eval (.func f) = .func (.func f) #[] #[] := rfl
  have hv : #[x, y].map a.eval = #[v, u] := by simp [hx, hy]
  unfold Oper.wp execOp
  simp only [ho, resolve, invoke, Sem.run_bind, hv, hev, Deferred.ofValue, Sem.run_pure, Result.andThen_ok, Array.append_empty, Array.empty_append, he, Oper.upon_enter]
  exact hc.mono (by rintro e w' ⟨r, rfl, hJ⟩; exact h r w' hJ)
set_option maxHeartbeats 4000000 in
set_option maxRecDepth 100000 in
theorem text_h {F G : Nat → Nat} {W0 : World} (hF : ∀ i, F i < 256) (hG : ∀ i, G i < 256) : Calls Tryd.prog 41 #[.agg (ab 32 F), .agg (ab 32 G)] W0 fun e w' => ∃ r, e = .returned r ∧ TxV w' W0.heap.size r (txt F G) ∧ Below W0.heap.size W0 w' := by
  obtain ⟨A, hA⟩ : ∃ A, Hid (A = ab 32 F) := ⟨_, hide1 rfl⟩
  obtain ⟨B, hB⟩ : ∃ B, Hid (B = ab 32 G) := ⟨_, hide1 rfl⟩
  obtain ⟨T, hT⟩ : ∃ T, Hid (T = txt F G) := ⟨_, hide1 rfl⟩
  have hTl : ∀ i, T i < 256 := by rw [hT.out]; exact txt_b hF hG
  have hX1 : bvs 1 (fun _ => 1) ++ bvs 32 F = bvs 33 T := by
    rw [show bvs 1 (fun _ => 1) = bvs 1 T from bvs_cong fun i hi => by rw [hT.out]; unfold txt; rw [if_pos (by omega)]]
    exact bvs_app fun i hi => by rw [hT.out]; unfold txt; rw [if_neg (by omega), if_pos (by omega), show 1 + i - 1 = i by omega]
  have hX2 : bvs 33 T ++ bvs 32 G = bvs 65 T := bvs_app fun i hi => by rw [hT.out]; unfold txt; rw [if_neg (by omega), if_neg (by omega), show 33 + i - 33 = i by omega]
  rw [← hA.out, ← hB.out, ← hT.out]
  have bxA : ∀ w : World, (Instr.box 27 (.agg A)).run Tryd.prog w = .ok (.pointer (some ⟨w.heap.size, 0, none⟩)) (w.alloc (.cells A 27)) := fun w => bx_agg w
  have bxB : ∀ w : World, (Instr.box 27 (.agg B)).run Tryd.prog w = .ok (.pointer (some ⟨w.heap.size, 0, none⟩)) (w.alloc (.cells B 27)) := fun w => bx_agg w
  obtain ⟨w1, hw1⟩ : ∃ w1, Hid (w1 = (W0.alloc (.cells A 27)).alloc (.cells B 27)) := ⟨_, hide1 rfl⟩
  have h1 : Below W0.heap.size W0 w1 := by rw [hw1.out]; exact ((Below.refl _ _).alloc (Nat.le_refl _) _).alloc (by simp) _
  have rA : w1.heap[W0.heap.size]? = some (.cells A 27 (0, 0)) := by
    rw [hw1.out, Below.heap_alloc _ _ _ (by simp)]; exact (MapKept.heap_alloc W0 _).1
  have rB : w1.heap[W0.heap.size + 1]? = some (.cells B 27 (0, 0)) := by
    rw [hw1.out]
    have := (MapKept.heap_alloc (W0.alloc (.cells A 27)) (.cells B 27)).1
    rwa [show (W0.alloc (.cells A 27)).heap.size = W0.heap.size + 1 by simp] at this
  have bA : ∀ w', Below w1.heap.size w1 w' → Bs w' (some ⟨W0.heap.size, 0, none⟩) 32 F := fun w' hb => by
    have := bs_ab (off := 0) (n := 32) hF (by rw [hA.out] at rA; exact rA) (Nat.le_refl _)
    simpa using this.later hb
  have bB : ∀ w', Below w1.heap.size w1 w' → Bs w' (some ⟨W0.heap.size + 1, 0, none⟩) 32 G := fun w' hb => by
    have := bs_ab (off := 0) (n := 32) hG (by rw [hB.out] at rB; exact rB) (Nat.le_refl _)
    simpa using this.later hb
  have hs1 := h1.size
  have hoX : ∀ w' : World, w'.heap = (w1.alloc (.cells #[.int .u8 1] 5)).heap → w'.ownsRow w1.heap.size 5 1 (.slice (some ⟨w1.heap.size, 0, none⟩) 1 1) 1 (bvs 1 fun _ => 1) := fun w' hw => by
    have h := own_one w1 1
    exact ⟨h.1, by
      rcases h.2 with e | ⟨g, cap, cur, r1, r2, r3, r4⟩
      · exact .inl e
      · exact .inr ⟨g, cap, cur, r1, r2, by rw [hw]; exact r3, r4⟩⟩
  go_enter Tryd.func41, Tryd.ntmps41
  go_upto_region 1 with fail
  rw [← hw1.out]
  replace hoX := hide1 hoX
  clear bxA bxB rA rB
  go_region_law (first
    | (refine step_append_f rfl (.tmp 5) (.tmp 6) rfl w1.heap.size _ 1 _ (by first | (simp [Act.eval]; done) | (simp [Act.eval, Act.put]; done) | rfl) (hoX.out _ rfl) _ 32 32 F (by first | (simp [Act.eval]; done) | (simp [Act.eval, Act.put]; done) | rfl) (bA _ (((Below.refl _ _).alloc (Nat.le_refl _) _).drew)) (by omega) (by simp) ?_
       intro v1 w2 ho2 hg2 _
       rw [hX1] at ho2
       have hw2 := below_app (((Below.refl _ _).alloc (Nat.le_refl _) _).drew) (by simp) (hoX.out _ rfl) hg2
       obtain ⟨a1, c1, rfl, -, -⟩ := bs_own ho2 hTl
       have hs2 := hide1 hw2.size
       clear hg2)
    | (refine step_append_f rfl (.tmp 7) (.tmp 8) rfl w1.heap.size _ 33 _ (by first | (simp [Act.eval]; done) | (simp [Act.eval, Act.put]; done) | rfl) ho2 _ 32 32 G (by first | (simp [Act.eval]; done) | (simp [Act.eval, Act.put]; done) | rfl) (bB _ hw2) (by omega) hs2.out ?_
       intro v2 w3 ho3 hg3 _
       rw [hX2] at ho3
       have hw3 := below_app hw2 hs2.out ho2 hg3
       have ht3 := tx_own hs1 ho3
       have hf3 := h1.trans (hw3.mono hs1)
       replace ht3 := hide1 ht3
       replace hf3 := hide1 hf3
       clear hg3 ho3 ho2))
  all_goals
    go_wp2
    go_ret
    exact ⟨_, rfl, ht3.out, hf3.out⟩
end Go.Proofs.YtdofoampjlebbaaDoor

namespace Go.Proofs.YtdofoampjlebbaaDoor
open Go.RowKit Go.Maps Sh

/-- What Texts answers. -/
def TsO (W0 : World) (T : List (Nat → Nat)) (r : Value) (w' : World) : Prop := ∃ xs, w'.ownsRow W0.heap.size 71 1 r T.length xs ∧ TsAt w' W0.heap.size xs T ∧ Below W0.heap.size W0 w'
theorem own_any {w : World} {base : Nat} {e : TypeId} {v : Value} {n : Nat} {xs : List Value} (h : w.ownsRow base e 1 v n xs) : w.ownsRow 0 e 1 v n xs := by
  refine ⟨h.1, ?_⟩
  rcases h.2 with h2 | ⟨g, cap, cur, e1, _, r⟩
  · exact .inl h2
  · exact .inr ⟨g, cap, cur, e1, Nat.zero_le _, r⟩
theorem own_at {w w' : World} {base : Nat} {e : TypeId} {v : Value} {n : Nat} {xs : List Value} (h : w.ownsRow base e 1 v n xs) (hb : Below w.heap.size w w') : w'.ownsRow base e 1 v n xs := by
  refine ⟨h.1, ?_⟩
  rcases h.2 with h2 | ⟨g, cap, cur, e1, hb', hg, r⟩
  · exact .inl h2
  · exact .inr ⟨g, cap, cur, e1, hb', (hb.block g (Array.getElem?_eq_some_iff.1 hg).1).trans hg, r⟩
theorem own_mono {w : World} {base base' : Nat} {e : TypeId} {v : Value} {n : Nat} {xs : List Value} (h : w.ownsRow base e 1 v n xs) (hb : base' ≤ base) : w.ownsRow base' e 1 v n xs := by
  refine ⟨h.1, ?_⟩
  rcases h.2 with h2 | ⟨g, cap, cur, e1, hb', r⟩
  · exact .inl h2
  · exact .inr ⟨g, cap, cur, e1, by omega, r⟩
theorem own_ty {w : World} {base : Nat} {e : TypeId} {v : Value} {n : Nat} {xs : List Value} (h : w.ownsRow base e 1 v n xs) : ∀ g, v.ownBlock = some g → ∃ c, w.heap[g]? = some (.cells c e (0, 0)) := by
  intro g hg
  rcases h.2 with ⟨rfl, _⟩ | ⟨q, cap, cur, rfl, _, hq, _⟩
  · cases hg
  · cases hg; exact ⟨cur, hq⟩
end Go.Proofs.YtdofoampjlebbaaDoor

namespace Go.Proofs.YtdofoampjlebbaaDoor
open Go.RowKit
section
variable {P : Program} {Q : Exit → Act → World → Prop}
theorem putg_ {a : Act} {d t : Nat} {v : Value} (hd : d < a.tmps.size) : (a.put (some d) v).tmps.getD t undef = if t = d then v else a.tmps.getD t undef := by
  unfold Act.put
  simp only [Array.getD_eq_getD_getElem?, Array.getElem?_setIfInBounds]
  by_cases e : d = t
  · subst e; simp [hd]
  · rw [if_neg e, if_neg (fun h => e h.symm)]
theorem wp_val {o : Oper} {a : Act} {w w' : World} {K : Act → World → Prop} {v : Value} (h : (execOp a.eval o).run P w = .ok (.value v) w') (hk : K (a.put o.dst v) w') : o.wp P a w K Q := by
  unfold Oper.wp; rw [h]; exact hk
theorem wp_skp {o : Oper} {a : Act} {w w' : World} {K : Act → World → Prop} (h : (execOp a.eval o).run P w = .ok .skip w') (hk : K (a.put o.dst undef) w') : o.wp P a w K Q := by
  unfold Oper.wp; rw [h]; exact hk
theorem wnt {ops : Array Oper} {a : Act} {o : Oper} {j d : Nat} (hg : o.guard = some (j, true)) (hd : (ops[j]?).bind (·.dst) = some d) (h : a.tmps.getD d undef = .bool true) : Region.wanted o (yielded ops a.tmps) = true := by
  have ht : a.tmps[d]? = some (.bool true) := by
    rw [Array.getD_eq_getD_getElem?] at h
    cases hx : a.tmps[d]? with
    | none => rw [hx] at h; cases h
    | some x => rw [hx] at h; rw [← h]; rfl
  unfold Region.wanted yielded
  rw [hg]
  simp only [hd, Option.bind_some, ht]
  rfl
theorem s_raw {fn : Func} {a : Act} {w : World} {R : Ending → World → Prop} {t : Nat} {v : Value} (hd : a.defers = []) (ht : t < a.tmps.size) (hv : a.tmps.getD t undef = v) (hr : fn.results = #[.tmp t]) (hR : R (.returned v) w) : bodyPost P fn R .ret a w := by
  refine ⟨hd, v, ?_, hR⟩
  have htm : a.tmps[t]? = some v := by
    simp only [Array.getD, ht] at hv
    simp at hv
    simp [ht, hv]
  simp only [results, hr]
  simp [htm]
/-- One operation's step: the others' answers stay told, the memory's predicate goes on. -/
def Hop (P : Program) (Q : Exit → Act → World → Prop) (l : List Oper) (n : Nat) (a0 : Act) (dd : Nat → Nat) (Rr : (Nat → Bool) → Nat → Value → World → Prop) (M : (Nat → Bool) → World → Prop) (i : Nat) (o : Oper) : Prop :=
  ∀ (D : Nat → Bool) (a : Act) (w : World), M D w → (∀ t, (∀ j, j < n → dd j ≠ t) → a.tmps.getD t undef = a0.tmps.getD t undef) → (∀ e ∈ o.after, Region.binds .any e = true → Rr D e.on (a.tmps.getD (dd e.on) undef) w ∧ D e.on = true) → D i = false → (∀ j oj, l[j]? = some oj → D j = true → ∀ e ∈ oj.after, Region.binds .any e = true → D e.on = true) →
    ∀ K : Act → World → Prop, (∀ v w', Rr (add1 D i) i v w' → M (add1 D i) w' → (∀ j u, j ≠ i → Rr D j u w → Rr (add1 D i) j u w') → K (a.put o.dst v) w') → Region.wanted o (yielded l.toArray a.tmps) = true ∧ o.wp P a w K Q
theorem wp_rel3 {l : List Oper} {id : Nat} (a0 : Act) (w0 : World) (Rr : (Nat → Bool) → Nat → Value → World → Prop) (M : (Nat → Bool) → World → Prop) (dd : Nat → Nat) (hm : P.follows .mixedOrders = true) (hac : acycB l.toArray = true) (n : Nat) (hn : l.length = n)
    (hdst : ∀ i o, l[i]? = some o → (o.dst = some (dd i) ∧ dd i < a0.tmps.size) ∨ (o.dst = none ∧ ∀ D v w, Rr D i v w → Rr D i undef w) ∧ a0.tmps.size ≤ dd i)
    (hinj : ∀ i j, i < n → j < n → dd i = dd j → i = j) (hdf : a0.defers = []) (h0 : M (fun _ => false) w0.drew)
    (hop : ∀ i o, l[i]? = some o → Hop P Q l n a0 dd Rr M i o)
    (hend : ∀ (D : Nat → Bool) (a : Act) (w : World), (∀ i, i < n → D i = true) → a.defers = [] → a.tmps.size = a0.tmps.size → M D w → (∀ t, (∀ j, j < n → dd j ≠ t) → a.tmps.getD t undef = a0.tmps.getD t undef) → (∀ i, i < n → Rr D i (a.tmps.getD (dd i) undef) w) → Q .normal a w) : (Code.region id l.toArray true).wp P Q a0 w0 := by
  subst hn
  have hacyc := acyc_of (ops := l.toArray) hac
  refine wp_region_any hm (wpAny_sym hacyc (fun D a w => a.defers = [] ∧ a.tmps.size = a0.tmps.size ∧ M D w ∧ (∀ t, (∀ j, j < l.length → dd j ≠ t) → a.tmps.getD t undef = a0.tmps.getD t undef) ∧ (∀ i, i < l.length → D i = true → Rr D i (a.tmps.getD (dd i) undef) w) ∧ ∀ j oj, l[j]? = some oj → D j = true → ∀ e ∈ oj.after, Region.binds .any e = true → D e.on = true) ?_ ?_ l.toArray.size _ a0 _ (by simp) ?_ ?_)
  · rintro D a w ⟨h1, h2, h3, h4, h5, h6⟩ i o ho hD hdep K hK
    have ho' : l[i]? = some o := by simpa using ho
    have hil : i < l.length := (List.getElem?_eq_some_iff.1 ho').1
    left
    refine hop i o ho' D a w h3 h4 (fun e he hb => ⟨h5 e.on (by have := hacyc i o ho e he hb; omega) (hdep e he hb), hdep e he hb⟩) (by simpa using hD) h6 K fun v w' hR hM hmono => hK _ _ ?_
    have hold : ∀ j, j < l.length → j ≠ i → add1 D i j = true → Rr (add1 D i) j (a.tmps.getD (dd j) undef) w' := fun j hj hne hDj => hmono j _ hne (h5 j hj (by unfold add1 at hDj; rwa [if_neg hne] at hDj))
    have hcl : ∀ j oj, l[j]? = some oj → add1 D i j = true → ∀ e ∈ oj.after, Region.binds .any e = true → add1 D i e.on = true := by
      intro j oj hj hDj e he hb
      unfold add1
      split
      · rfl
      · unfold add1 at hDj
        split at hDj
        · rename_i hji
          subst hji
          rw [ho'] at hj; cases hj
          exact hdep e he hb
        · exact h6 j oj hj hDj e he hb
    rcases hdst i o ho' with ⟨hd, hlt⟩ | ⟨⟨hd, hu⟩, hge⟩
    · have hdi : dd i < a.tmps.size := by rw [h2]; exact hlt
      rw [hd]
      refine ⟨h1, by unfold Act.put; simpa using h2, hM, fun t ht => ?_, fun j hj hDj => ?_, hcl⟩
      · rw [putg_ hdi, if_neg (fun e => ht i hil e.symm)]; exact h4 t ht
      · rw [putg_ hdi]
        by_cases e : dd j = dd i
        · rw [if_pos e, hinj j i hj hil e]; exact hR
        · rw [if_neg e]; exact hold j hj (fun e2 => e (by rw [e2])) hDj
    · rw [hd]
      refine ⟨h1, h2, hM, h4, fun j hj hDj => ?_, hcl⟩
      by_cases e : j = i
      · subst e
        have hz : a.tmps.getD (dd j) undef = undef := by
          rw [Array.getD_eq_getD_getElem?, Array.getElem?_eq_none (by rw [h2]; exact hge)]; rfl
        rw [show (a.put none v).tmps.getD (dd j) undef = undef from hz]
        exact hu _ _ _ hR
      · exact hold j hj e hDj
  · rintro D a w ⟨h1, h2, h3, h4, h5, _⟩ hall
    exact hend D a w (fun i hi => hall i (by simpa using hi)) h1 h2 h3 h4 fun i hi => h5 i hi (hall i (by simpa using hi))
  · exact Nat.le_trans (List.length_filter_le _ _) (by simp)
  · have e : ∀ i, (Array.replicate l.toArray.size false).getD i false = false := by
      intro i
      by_cases h : i < l.toArray.size <;> simp [Array.getD]
    have ef : (fun i => (Array.replicate l.toArray.size false).getD i false) = fun _ => false := funext e
    refine ⟨hdf, rfl, ?_, fun _ _ => rfl, fun i _ hi => ?_, fun i _ _ hi => ?_⟩
    · exact ef ▸ h0
    · replace hi : (Array.replicate l.toArray.size false).getD i false = true := hi
      rw [e] at hi; cases hi
    · replace hi : (Array.replicate l.toArray.size false).getD i false = true := hi
      rw [e] at hi; cases hi
end
end Go.Proofs.YtdofoampjlebbaaDoor

namespace Go.Proofs.YtdofoampjlebbaaDoor
open Go.RowKit Sh
section
variable {Q : Exit → Act → World → Prop}
theorem oper_any {o : Oper} {a : Act} {w : World} {K : Act → World → Prop} (f : FuncId) (xs : Array Operand) (tys : Array TypeId) (ho : o.op = .call { callee := .value (.func f), args := xs, argTypes := tys }) (vs : Array Value) (hv : xs.map a.eval = vs) (he : ∀ w, (callFunc f vs).run Tryd.prog w = .ok (.enter f vs) w) {J : Value → World → Prop}
    (hc : Calls Tryd.prog f vs w fun e w' => ∃ r, e = .returned r ∧ J r w') (h : ∀ r w', J r w' → K (a.put o.dst r) w') : o.wp Tryd.prog a w K Q := by
  have hev : a.eval (.func f) = .func (.func f) #[] #[] := rfl
  unfold Oper.wp execOp
  simp only [ho, resolve, invoke, Sem.run_bind, hv, hev, Deferred.ofValue, Sem.run_pure, Result.andThen_ok, Array.append_empty, Array.empty_append, he, Oper.upon_enter]
  exact hc.mono (by rintro e w' ⟨r, rfl, hJ⟩; exact h r w' hJ)
theorem oper_app {o : Oper} {a : Act} {w : World} {K : Act → World → Prop} (s x : Operand) (ho : o.op = .call { callee := .builtin .append, args := #[s, x], argTypes := #[22, 22] }) (base : Nat) (v : Value) (n : Nat) (xs : List Value) (hs : a.eval s = v) (hown : w.ownsRow base 27 32 v n xs) {g : Nat} {R : Nat → Nat} (hx : a.eval x = .slice (some ⟨g, 0, none⟩) 1 1) (hg : w.heap[g]? = some (.cells (ab 32 R) 27 (0, 0))) (hR : ∀ i, R i < 256)
    (hbytes : n + 1 ≤ 1000000) (hbase : base ≤ w.heap.size) (h : ∀ v' w', w'.ownsRow base 27 32 v' (n + 1) (xs ++ ssv [R]) → Below base w w' → K (a.put o.dst v') w') : o.wp Tryd.prog a w K Q := by
  have hb : SsAt w (some ⟨g, 0, none⟩) [R] := ⟨fun F h j => by rw [List.mem_singleton.1 h]; exact hR j, fun _ => ⟨_, 0, rfl, fun i h j hj => by
    obtain rfl : i = 0 := by simpa using h
    rw [cell_of_row _ _ _ _ _ _ hg, show 0 + 32 * 0 + j = j by omega]
    exact arr_get _ _ _ hj⟩⟩
  obtain ⟨v', w', hr, h2, h3⟩ := run_append_ss w base o.type v n xs hown (some ⟨g, 0, none⟩) 1 1 [R] hb rfl hbytes hbase
  unfold Oper.wp execOp
  simp only [ho, resolve, invoke, builtin, Sem.run_bind, Sem.run_pure, Result.andThen_ok, List.map_toArray, List.map_cons, List.map_nil, hs, hx, hr]
  exact h v' w' h2 (own_below hown hbase h3)
end
def OwnS (base n : Nat) (L : List (Nat → Nat)) (v : Value) (w : World) : Prop := w.ownsRow base 27 32 v n (ssv L) ∧ base ≤ w.heap.size
theorem OwnS.later {base n : Nat} {L : List (Nat → Nat)} {v : Value} {w w' : World} (h : OwnS base n L v w) (hb : Below w.heap.size w w') : OwnS base n L v w' := ⟨own_later h.1 hb, Nat.le_trans h.2 hb.size⟩
def Row1 (R : Nat → Nat) (v : Value) (w : World) : Prop := ∃ g, v = .slice (some ⟨g, 0, none⟩) 1 1 ∧ w.heap[g]? = some (.cells (ab 32 R) 27 (0, 0))
theorem Row1.later {R : Nat → Nat} {v : Value} {w w' : World} (h : Row1 R v w) (hb : Below w.heap.size w w') : Row1 R v w' := by
  obtain ⟨g, e, h1⟩ := h
  exact ⟨g, e, (hb.block g (Array.getElem?_eq_some_iff.1 h1).1).trans h1⟩
theorem add1_ne {D : Nat → Bool} {i j : Nat} (h : j ≠ i) : add1 D i j = D j := by unfold add1; rw [if_neg h]
theorem add1_eq {D : Nat → Bool} {i : Nat} : add1 D i i = true := by unfold add1; rw [if_pos rfl]
end Go.Proofs.YtdofoampjlebbaaDoor

namespace Go.Proofs.YtdofoampjlebbaaDoor
open Go.RowKit Go.Maps Sh

abbrev nilV : Value := .slice none 0 0
/-- A tree's levels in memory: how many, what each of them holds, and where; none of its blocks is q. -/
structure LvAt (q : Option Nat) (w : World) (lo tb : Nat) (mv : Value) (K : Nat) (M : Nat → List (Nat → Nat)) (lv : Value) (vs : List Value) : Prop where
  tl : lo ≤ tb
  cell : w.heap[tb]? = some (.cells #[lv, mv] 62 (0, 0))
  row : w.ownsRow lo 22 1 lv K vs
  lev : ∀ k, k < K → w.ownsRow lo 27 32 (vs.getD k nilV) (M k).length (ssv (M k))
  ap : ∀ i j g, i < K → j < K → i ≠ j → (vs.getD i nilV).ownBlock = some g → (vs.getD j nilV).ownBlock ≠ some g
  lt : ∀ k F, k < K → F ∈ M k → ∀ j, F j < 256
  av : ∀ b, q = some b → b < w.heap.size ∧ tb ≠ b ∧ lv.ownBlock ≠ some b ∧ ∀ k, (vs.getD k nilV).ownBlock ≠ some b
section
variable {q : Option Nat} {w w' : World} {lo tb : Nat} {mv : Value} {K : Nat} {M : Nat → List (Nat → Nat)} {lv : Value} {vs : List Value}
theorem LvAt.later (h : LvAt q w lo tb mv K M lv vs) (hb : Below w.heap.size w w') : LvAt q w' lo tb mv K M lv vs :=
  ⟨h.tl, (hb.block tb (Array.getElem?_eq_some_iff.1 h.cell).1).trans h.cell, own_later h.row hb, fun k hk => own_later (h.lev k hk) hb, h.ap, h.lt, fun b e => ⟨Nat.lt_of_lt_of_le (h.av b e).1 hb.size, (h.av b e).2⟩⟩
theorem LvAt.c0 (h : LvAt q w lo tb mv K M lv vs) : w.cell? ⟨tb, 0, none⟩ = some lv := by rw [cell_of_row _ _ _ _ _ _ h.cell]; rfl
theorem LvAt.c1 (h : LvAt q w lo tb mv K M lv vs) : w.cell? ⟨tb, 1, none⟩ = some mv := by rw [cell_of_row _ _ _ _ _ _ h.cell]; rfl
/-- The row of levels, where there is one. -/
theorem LvAt.rw (h : LvAt q w lo tb mv K M lv vs) (hK : 0 < K) : ∃ g cap, lv = .slice (some ⟨g, 0, none⟩) K cap ∧ lo ≤ g ∧ K ≤ cap ∧ ∀ k, k < K → w.cell? ⟨g, k, none⟩ = some (vs.getD k nilV) := by
  rcases h.row.2 with ⟨_, e⟩ | ⟨g, cap, cur, e, hlo, hg, hn, _, hcs, ht⟩
  · omega
  · refine ⟨g, cap, e, hlo, hn, fun k hk => ?_⟩
    have hl : vs.length = K := by have := h.row.1; omega
    rw [cell_of_row _ _ _ _ _ _ hg, ← Array.getElem?_toList]
    have h1 : (cur.toList.take (K * 1))[k]? = cur.toList[k]? := by rw [List.getElem?_take, if_pos (by omega)]
    rw [← h1, ht, List.getD_eq_getElem?_getD, List.getElem?_eq_getElem (by omega)]; rfl
set_option maxHeartbeats 1000000 in
theorem level_in (h : LvAt q w lo tb mv K M lv vs) {k : Nat} (hk : k < K) : Calls Tryd.prog 32 #[.pointer (some ⟨tb, 0, none⟩), .int .i64 ((k : Nat) : Int)] w fun e w' => e = .returned (vs.getD k nilV) ∧ w' = w := by
  obtain ⟨g, cap, rfl, -, -, hc⟩ := h.rw (by omega)
  have h0 := h.c0
  have hck := hc k hk
  have h1 : ¬ (k : Int) < 0 := by omega
  have h2 : ¬ (K : Int) ≤ (k : Int) := by omega
  generalize vs.getD k nilV = v at *
  clear hc h
  go_enter Tryd.func32, Tryd.ntmps32
  go_wp2
  go_ret
  exact ⟨rfl, rfl⟩
set_option maxHeartbeats 1000000 in
theorem level_out (h : LvAt q w lo tb mv K M lv vs) {k : Int} (hk : k < 0 ∨ (K : Int) ≤ k) : Calls Tryd.prog 32 #[.pointer (some ⟨tb, 0, none⟩), .int .i64 k] w fun e w' => e = .returned nilV ∧ w' = w := by
  have h0 := h.c0
  by_cases h1 : k < 0
  · clear h
    go_enter Tryd.func32, Tryd.ntmps32
    go_wp2
    go_ret
    exact ⟨rfl, rfl⟩
  · have h2 : (K : Int) ≤ k := by omega
    obtain ⟨a, cap, rfl⟩ : ∃ a cap, lv = .slice a K cap := by
      rcases h.row.2 with ⟨e1, e2⟩ | ⟨g, cap, cur, e, _⟩
      · exact ⟨none, 0, by rw [e1, e2]⟩
      · exact ⟨_, _, e⟩
    clear h
    go_enter Tryd.func32, Tryd.ntmps32
    go_wp2
    go_ret
    exact ⟨rfl, rfl⟩
end
set_option maxHeartbeats 1000000 in
theorem level_nil (k : Int) (w : World) : Calls Tryd.prog 32 #[.pointer none, .int .i64 k] w fun e w' => e = .returned nilV ∧ w' = w := by
  go_enter Tryd.func32, Tryd.ntmps32
  go_wp2
  go_ret
  exact ⟨rfl, rfl⟩
end Go.Proofs.YtdofoampjlebbaaDoor

namespace Go.Proofs.YtdofoampjlebbaaDoor
open Go.RowKit Go.Maps Sh
section
variable {x u : Operand}
theorem sub_nn {m k : Nat} (h : k ≤ m) (hm : m ≤ 1000000000) (w : World) : (do eqGuard .sub 3 x u (.int .i64 ((m : Nat) : Int)) (.int .i64 ((k : Nat) : Int)); binOp .sub 3 (.int .i64 ((m : Nat) : Int)) (.int .i64 ((k : Nat) : Int))).run Tryd.prog w = .ok (.int .i64 ((m - k : Nat) : Int)) w := by
  have := sb_zn (x := x) (u := u) (m := ((m : Nat) : Int)) (n := ((k : Nat) : Int)) (k := m - k) (by omega) (by omega) w
  exact this
end
def PA5 (b off n cap i N1 B : Nat) (A : List (Nat → Nat)) (R : Nat → Nat) : (Nat → Bool) → Nat → Value → World → Prop
  | _, 0, v, _ => v = .slice (some ⟨b, off, none⟩) n cap
  | _, 1, v, _ => v = .int .i64 ((cut n : Nat) : Int)
  | _, 2, v, _ => v = .slice (some ⟨b, off, none⟩) (cut n) cap
  | _, 3, v, _ => v = .int .i64 ((i : Nat) : Int)
  | D, 4, v, w => D 10 = false → OwnS B N1 A v w
  | _, 5, v, _ => v = .slice (some ⟨b, off, none⟩) n cap
  | _, 6, v, _ => v = .int .i64 ((cut n : Nat) : Int)
  | _, 7, v, _ => v = .slice (some ⟨b, off + 32 * cut n, none⟩) (n - cut n) (cap - cut n)
  | _, 8, v, _ => v = .agg (ab 32 R)
  | D, 9, v, w => D 10 = false → Row1 R v w
  | D, 10, v, w => D 10 = true ∧ OwnS B (N1 + 1) (A ++ [R]) v w
  | D, 11, v, w => D 10 = true ∧ OwnS B (N1 + 1) (A ++ [R]) v w
  | _, _, _, _ => True
def PA5d : Nat → Nat
  | 0 => 15
  | 1 => 16
  | 2 => 17
  | 3 => 18
  | 4 => 19
  | 5 => 20
  | 6 => 21
  | 7 => 22
  | 8 => 23
  | 9 => 24
  | 10 => 25
  | 11 => 4
  | i => 2000 + i
theorem PA5_mono (b off n cap i N1 B : Nat) (A : List (Nat → Nat)) (R : Nat → Nat) {D : Nat → Bool} {ix : Nat} {w w' : World} (hD : D ix = false) (hb : ix ≠ 10 → Below w.heap.size w w') : ∀ (j : Nat) (u : Value), j ≠ ix → PA5 b off n cap i N1 B A R D j u w → PA5 b off n cap i N1 B A R (add1 D ix) j u w'
  | 0, _, _, h => h
  | 1, _, _, h => h
  | 2, _, _, h => h
  | 3, _, _, h => h
  | 4, _, _, h => fun hd => by
    by_cases e : ix = 10
    · subst e; rw [add1_eq] at hd; cases hd
    · rw [add1_ne (fun q => e q.symm)] at hd; exact (h hd).later (hb e)
  | 5, _, _, h => h
  | 6, _, _, h => h
  | 7, _, _, h => h
  | 8, _, _, h => h
  | 9, _, _, h => fun hd => by
    by_cases e : ix = 10
    · subst e; rw [add1_eq] at hd; cases hd
    · rw [add1_ne (fun q => e q.symm)] at hd; exact (h hd).later (hb e)
  | 10, _, _, h => by
    have e : ix ≠ 10 := fun e => by rw [e] at hD; rw [h.1] at hD; cases hD
    exact ⟨by rw [add1_ne (fun q => e q.symm)]; exact h.1, h.2.later (hb e)⟩
  | 11, _, _, h => by
    have e : ix ≠ 10 := fun e => by rw [e] at hD; rw [h.1] at hD; cases hD
    exact ⟨by rw [add1_ne (fun q => e q.symm)]; exact h.1, h.2.later (hb e)⟩
  | _ + 12, _, _, _ => trivial
def PA6 (b off n cap i N1 B : Nat) (A : List (Nat → Nat)) (R : Nat → Nat) : (Nat → Bool) → Nat → Value → World → Prop
  | _, 0, v, _ => v = .slice (some ⟨b, off, none⟩) n cap
  | _, 1, v, _ => v = .int .i64 ((cut n : Nat) : Int)
  | _, 2, v, _ => v = .slice (some ⟨b, off + 32 * cut n, none⟩) (n - cut n) (cap - cut n)
  | _, 3, v, _ => v = .int .i64 ((i : Nat) : Int)
  | _, 4, v, _ => v = .int .i64 ((cut n : Nat) : Int)
  | _, 5, v, _ => v = .int .i64 ((i - cut n : Nat) : Int)
  | D, 6, v, w => D 12 = false → OwnS B N1 A v w
  | _, 7, v, _ => v = .slice (some ⟨b, off, none⟩) n cap
  | _, 8, v, _ => v = .int .i64 ((cut n : Nat) : Int)
  | _, 9, v, _ => v = .slice (some ⟨b, off, none⟩) (cut n) cap
  | _, 10, v, _ => v = .agg (ab 32 R)
  | D, 11, v, w => D 12 = false → Row1 R v w
  | D, 12, v, w => D 12 = true ∧ OwnS B (N1 + 1) (A ++ [R]) v w
  | D, 13, v, w => D 12 = true ∧ OwnS B (N1 + 1) (A ++ [R]) v w
  | _, _, _, _ => True
def PA6d : Nat → Nat
  | 0 => 26
  | 1 => 27
  | 2 => 28
  | 3 => 29
  | 4 => 30
  | 5 => 31
  | 6 => 32
  | 7 => 33
  | 8 => 34
  | 9 => 35
  | 10 => 36
  | 11 => 37
  | 12 => 38
  | 13 => 4
  | i => 2000 + i
theorem PA6_mono (b off n cap i N1 B : Nat) (A : List (Nat → Nat)) (R : Nat → Nat) {D : Nat → Bool} {ix : Nat} {w w' : World} (hD : D ix = false) (hb : ix ≠ 12 → Below w.heap.size w w') : ∀ (j : Nat) (u : Value), j ≠ ix → PA6 b off n cap i N1 B A R D j u w → PA6 b off n cap i N1 B A R (add1 D ix) j u w'
  | 0, _, _, h => h
  | 1, _, _, h => h
  | 2, _, _, h => h
  | 3, _, _, h => h
  | 4, _, _, h => h
  | 5, _, _, h => h
  | 6, _, _, h => fun hd => by
    by_cases e : ix = 12
    · subst e; rw [add1_eq] at hd; cases hd
    · rw [add1_ne (fun q => e q.symm)] at hd; exact (h hd).later (hb e)
  | 7, _, _, h => h
  | 8, _, _, h => h
  | 9, _, _, h => h
  | 10, _, _, h => h
  | 11, _, _, h => fun hd => by
    by_cases e : ix = 12
    · subst e; rw [add1_eq] at hd; cases hd
    · rw [add1_ne (fun q => e q.symm)] at hd; exact (h hd).later (hb e)
  | 12, _, _, h => by
    have e : ix ≠ 12 := fun e => by rw [e] at hD; rw [h.1] at hD; cases hD
    exact ⟨by rw [add1_ne (fun q => e q.symm)]; exact h.1, h.2.later (hb e)⟩
  | 13, _, _, h => by
    have e : ix ≠ 12 := fun e => by rw [e] at hD; rw [h.1] at hD; cases hD
    exact ⟨by rw [add1_ne (fun q => e q.symm)]; exact h.1, h.2.later (hb e)⟩
  | _ + 14, _, _, _ => trivial
set_option maxHeartbeats 4000000 in
set_option maxRecDepth 100000 in
theorem refPath_lo {b off n cap i N1 : Nat} {A : List (Nat → Nat)} {R : Nat → Nat} {W0 : World} (hn : 2 ≤ n) (hm : n ≤ 1000) (hcap : n ≤ cap) (hk : 1 ≤ cut n ∧ cut n < n ∧ n ≤ 2 * cut n) (hN : N1 ≤ 1000) (hRl : ∀ i, R i < 256) (hci : i < cut n) (_hin : i < n)
    (hP : ∀ w, Below W0.heap.size W0 w → Calls Tryd.prog 34 #[.slice (some ⟨b, off, none⟩) (cut n) cap, .int .i64 ((i : Nat) : Int)] w fun e w' => ∃ r, e = .returned r ∧ OwnS W0.heap.size N1 A r w' ∧ Below w.heap.size w w')
    (hR : ∀ w, Below W0.heap.size W0 w → Calls Tryd.prog 21 #[.slice (some ⟨b, off + 32 * cut n, none⟩) (n - cut n) (cap - cut n)] w fun e w' => e = .returned (.agg (ab 32 R)) ∧ Below w.heap.size w w') : Calls Tryd.prog 34 #[.slice (some ⟨b, off, none⟩) n cap, .int .i64 ((i : Nat) : Int)] W0 fun e w' => ∃ r, e = .returned r ∧ OwnS W0.heap.size (N1 + 1) (A ++ [R]) r w' ∧ Below W0.heap.size W0 w' := by
  obtain ⟨hk1, hk2, hk3⟩ := hk
  have h1 : ((n : Int) == 1) = false := by rw [beq_eq_false_iff_ne]; omega
  have hlt : (i : Int) < (cut n : Int) := by omega
  go_enter Tryd.func34, Tryd.ntmps34
  go_wp2_with fail
  refine (cut_kr n (by omega) W0).mono ?_
  rintro e w1 ⟨rfl, hb1⟩
  go_upto_region 5 with fail
  refine wp_rel3 _ _ (PA5 b off n cap i N1 W0.heap.size A R) (fun _ w => Below W0.heap.size W0 w) PA5d (by kernel_rfl) (by kernel_rfl) 12 (by kernel_rfl) ?_ ?_ rfl (hb1.drew) ?_ ?_
  · intro ix o ho
    match ix, ho with
    | 0, ho => obtain rfl := Option.some.inj ho; exact .inl ⟨rfl, by show 15 < 39; decide⟩
    | 1, ho => obtain rfl := Option.some.inj ho; exact .inl ⟨rfl, by show 16 < 39; decide⟩
    | 2, ho => obtain rfl := Option.some.inj ho; exact .inl ⟨rfl, by show 17 < 39; decide⟩
    | 3, ho => obtain rfl := Option.some.inj ho; exact .inl ⟨rfl, by show 18 < 39; decide⟩
    | 4, ho => obtain rfl := Option.some.inj ho; exact .inl ⟨rfl, by show 19 < 39; decide⟩
    | 5, ho => obtain rfl := Option.some.inj ho; exact .inl ⟨rfl, by show 20 < 39; decide⟩
    | 6, ho => obtain rfl := Option.some.inj ho; exact .inl ⟨rfl, by show 21 < 39; decide⟩
    | 7, ho => obtain rfl := Option.some.inj ho; exact .inl ⟨rfl, by show 22 < 39; decide⟩
    | 8, ho => obtain rfl := Option.some.inj ho; exact .inl ⟨rfl, by show 23 < 39; decide⟩
    | 9, ho => obtain rfl := Option.some.inj ho; exact .inl ⟨rfl, by show 24 < 39; decide⟩
    | 10, ho => obtain rfl := Option.some.inj ho; exact .inl ⟨rfl, by show 25 < 39; decide⟩
    | 11, ho => obtain rfl := Option.some.inj ho; exact .inl ⟨rfl, by show 4 < 39; decide⟩
    | _ + 12, ho => exact absurd ho (by simp)
  · intro ix jx hi hj e; unfold PA5d at e; split at e <;> split at e <;> omega
  · intro ix o ho
    match ix, ho with
    | 0, ho =>
      obtain rfl := Option.some.inj ho
      intro D a w hM hsl hdep hDi hcl K hK
      have hp0 : a.tmps.getD 0 undef = .slice (some ⟨b, off, none⟩) n cap := hsl 0 (by intro j hj; unfold PA5d; split <;> omega)
      refine ⟨rfl, ?_⟩
      refine wp_val (w' := w) (v := .slice (some ⟨b, off, none⟩) n cap) (by simp only [execOp, Act.eval]; rw [show a.tmps.getD 0 undef = _ from hp0]; rfl) ?_
      exact hK _ _ rfl hM (PA5_mono b off n cap i N1 W0.heap.size A R hDi (fun _ => (Below.refl _ _)))
    | 1, ho =>
      obtain rfl := Option.some.inj ho
      intro D a w hM hsl hdep hDi hcl K hK
      have hp5 : a.tmps.getD 5 undef = .int .i64 ((cut n : Nat) : Int) := hsl 5 (by intro j hj; unfold PA5d; split <;> omega)
      refine ⟨rfl, ?_⟩
      refine wp_val (w' := w) (v := .int .i64 ((cut n : Nat) : Int)) (by simp only [execOp, Act.eval]; rw [show a.tmps.getD 5 undef = _ from hp5]; rfl) ?_
      exact hK _ _ rfl hM (PA5_mono b off n cap i N1 W0.heap.size A R hDi (fun _ => (Below.refl _ _)))
    | 2, ho =>
      obtain rfl := Option.some.inj ho
      intro D a w hM hsl hdep hDi hcl K hK
      have e0 := (hdep ⟨0, .data⟩ (by simp) rfl).1
      have e1 := (hdep ⟨1, .data⟩ (by simp) rfl).1
      refine ⟨rfl, ?_⟩
      have hl := sl_lo (b := b) (off := off) (n := n) (cap := cap) (k := cut n) (by omega) hcap w
      refine wp_val (w' := w) (v := .slice (some ⟨b, off, none⟩) (cut n) cap) (by simp only [execOp, Act.eval, Option.map_some, Option.map_none]; rw [show a.tmps.getD 15 undef = _ from e0, show a.tmps.getD 16 undef = _ from e1]; simp only [Sem.run_bind, hl, Result.andThen_ok, Sem.run_pure]) ?_
      exact hK _ _ rfl hM (PA5_mono b off n cap i N1 W0.heap.size A R hDi (fun _ => (Below.refl _ _)))
    | 3, ho =>
      obtain rfl := Option.some.inj ho
      intro D a w hM hsl hdep hDi hcl K hK
      have hp1 : a.tmps.getD 1 undef = .int .i64 ((i : Nat) : Int) := hsl 1 (by intro j hj; unfold PA5d; split <;> omega)
      refine ⟨rfl, ?_⟩
      refine wp_val (w' := w) (v := .int .i64 ((i : Nat) : Int)) (by simp only [execOp, Act.eval]; rw [show a.tmps.getD 1 undef = _ from hp1]; rfl) ?_
      exact hK _ _ rfl hM (PA5_mono b off n cap i N1 W0.heap.size A R hDi (fun _ => (Below.refl _ _)))
    | 4, ho =>
      obtain rfl := Option.some.inj ho
      intro D a w hM hsl hdep hDi hcl K hK
      have e2 := (hdep ⟨2, .data⟩ (by simp) rfl).1
      have e3 := (hdep ⟨3, .data⟩ (by simp) rfl).1
      refine ⟨rfl, ?_⟩
      refine oper_any 34 #[.tmp 17, .tmp 18] _ rfl #[.slice (some ⟨b, off, none⟩) (cut n) cap, .int .i64 ((i : Nat) : Int)] (by simp only [List.map_toArray, List.map_cons, List.map_nil, Act.eval]; rw [show a.tmps.getD 17 undef = _ from e2, show a.tmps.getD 18 undef = _ from e3]) (fun w => by kernel_rfl) (hP w hM) fun r w' hj => ?_
      obtain ⟨hr, hb⟩ := hj
      exact hK _ _ (fun _ => hr) (blw hM hb) (PA5_mono b off n cap i N1 W0.heap.size A R hDi (fun _ => hb))
    | 5, ho =>
      obtain rfl := Option.some.inj ho
      intro D a w hM hsl hdep hDi hcl K hK
      have hp0 : a.tmps.getD 0 undef = .slice (some ⟨b, off, none⟩) n cap := hsl 0 (by intro j hj; unfold PA5d; split <;> omega)
      refine ⟨rfl, ?_⟩
      refine wp_val (w' := w) (v := .slice (some ⟨b, off, none⟩) n cap) (by simp only [execOp, Act.eval]; rw [show a.tmps.getD 0 undef = _ from hp0]; rfl) ?_
      exact hK _ _ rfl hM (PA5_mono b off n cap i N1 W0.heap.size A R hDi (fun _ => (Below.refl _ _)))
    | 6, ho =>
      obtain rfl := Option.some.inj ho
      intro D a w hM hsl hdep hDi hcl K hK
      have hp5 : a.tmps.getD 5 undef = .int .i64 ((cut n : Nat) : Int) := hsl 5 (by intro j hj; unfold PA5d; split <;> omega)
      refine ⟨rfl, ?_⟩
      refine wp_val (w' := w) (v := .int .i64 ((cut n : Nat) : Int)) (by simp only [execOp, Act.eval]; rw [show a.tmps.getD 5 undef = _ from hp5]; rfl) ?_
      exact hK _ _ rfl hM (PA5_mono b off n cap i N1 W0.heap.size A R hDi (fun _ => (Below.refl _ _)))
    | 7, ho =>
      obtain rfl := Option.some.inj ho
      intro D a w hM hsl hdep hDi hcl K hK
      have e5 := (hdep ⟨5, .data⟩ (by simp) rfl).1
      have e6 := (hdep ⟨6, .data⟩ (by simp) rfl).1
      refine ⟨rfl, ?_⟩
      have hl := sl_hi (b := b) (off := off) (n := n) (cap := cap) (k := cut n) (by omega) hcap w
      refine wp_val (w' := w) (v := .slice (some ⟨b, off + 32 * cut n, none⟩) (n - cut n) (cap - cut n)) (by simp only [execOp, Act.eval, Option.map_some, Option.map_none]; rw [show a.tmps.getD 20 undef = _ from e5, show a.tmps.getD 21 undef = _ from e6]; simp only [Sem.run_bind, hl, Result.andThen_ok, Sem.run_pure]) ?_
      exact hK _ _ rfl hM (PA5_mono b off n cap i N1 W0.heap.size A R hDi (fun _ => (Below.refl _ _)))
    | 8, ho =>
      obtain rfl := Option.some.inj ho
      intro D a w hM hsl hdep hDi hcl K hK
      have e7 := (hdep ⟨7, .data⟩ (by simp) rfl).1
      refine ⟨rfl, ?_⟩
      refine oper_callg 21 #[.tmp 22] _ rfl #[.slice (some ⟨b, off + 32 * cut n, none⟩) (n - cut n) (cap - cut n)] (by simp only [List.map_toArray, List.map_cons, List.map_nil, Act.eval]; rw [show a.tmps.getD 22 undef = _ from e7]) (fun w => by kernel_rfl) (hR w hM) fun w' hb => ?_
      exact hK _ _ rfl (blw hM hb) (PA5_mono b off n cap i N1 W0.heap.size A R hDi (fun _ => hb))
    | 9, ho =>
      obtain rfl := Option.some.inj ho
      intro D a w hM hsl hdep hDi hcl K hK
      have e8 := (hdep ⟨8, .data⟩ (by simp) rfl).1
      refine ⟨rfl, ?_⟩
      have hl := bs_sum R w
      refine wp_val (w' := w.alloc (.cells (ab 32 R) 27)) (v := .slice (some ⟨w.heap.size, 0, none⟩) 1 1) (by simp only [execOp, Act.eval, List.map_toArray, List.map_cons, List.map_nil]; rw [show a.tmps.getD 23 undef = _ from e8]; simp only [Sem.run_bind, hl, Result.andThen_ok, Sem.run_pure]) ?_
      exact hK _ _ (fun _ => ⟨_, rfl, World.alloc_heap_new w _⟩) (blw hM ((Below.refl _ _).alloc (Nat.le_refl _) _)) (PA5_mono b off n cap i N1 W0.heap.size A R hDi (fun _ => (Below.refl _ _).alloc (Nat.le_refl _) _))
    | 10, ho =>
      obtain rfl := Option.some.inj ho
      intro D a w hM hsl hdep hDi hcl K hK
      have e4 := (hdep ⟨4, .data⟩ (by simp) rfl).1
      have e9 := (hdep ⟨9, .data⟩ (by simp) rfl).1
      refine ⟨rfl, ?_⟩
      have ho := e4 hDi
      obtain ⟨g, eg, hg⟩ := e9 hDi
      refine oper_app (.tmp 19) (.tmp 24) rfl W0.heap.size _ N1 _ rfl ho.1 (show a.tmps.getD 24 undef = _ from eg) hg hRl (by omega) ho.2 fun v' w' ho' hb' => ?_
      exact hK _ _ ⟨add1_eq, by rw [ssv_app]; exact ho', Nat.le_trans ho.2 hb'.size⟩ (hM.trans hb') (PA5_mono b off n cap i N1 W0.heap.size A R hDi (fun h => absurd rfl h))
    | 11, ho =>
      obtain rfl := Option.some.inj ho
      intro D a w hM hsl hdep hDi hcl K hK
      have e10 := (hdep ⟨10, .data⟩ (by simp) rfl).1
      refine ⟨rfl, ?_⟩
      refine wp_val (w' := w) (v := a.tmps.getD 25 undef) (by simp only [execOp, Act.eval]; rfl) ?_
      exact hK _ _ ⟨by rw [add1_ne (by decide)]; exact e10.1, e10.2⟩ hM (PA5_mono b off n cap i N1 W0.heap.size A R hDi (fun _ => (Below.refl _ _)))
    | _ + 12, ho => exact absurd ho (by simp)
  · intro D a u hall hd hs hM hsl hr
    obtain ⟨-, hv⟩ := hr 11 (by decide)
    refine (‹∀ (a : Act) (w : World), Code.wp Tryd.prog Code.ret _ a w → _›) a u ?_
    refine wp_ret ?_
    refine then_ret ?_
    exact s_raw hd (by rw [hs]; show 4 < 39; decide) rfl Tryd.results34 ⟨_, rfl, hv, hM⟩
set_option maxHeartbeats 4000000 in
set_option maxRecDepth 100000 in
theorem refPath_hi {b off n cap i N1 : Nat} {A : List (Nat → Nat)} {R : Nat → Nat} {W0 : World} (hn : 2 ≤ n) (hm : n ≤ 1000) (hcap : n ≤ cap) (hk : 1 ≤ cut n ∧ cut n < n ∧ n ≤ 2 * cut n) (hN : N1 ≤ 1000) (hRl : ∀ i, R i < 256) (hci : cut n ≤ i) (hin : i < n)
    (hP : ∀ w, Below W0.heap.size W0 w → Calls Tryd.prog 34 #[.slice (some ⟨b, off + 32 * cut n, none⟩) (n - cut n) (cap - cut n), .int .i64 ((i - cut n : Nat) : Int)] w fun e w' => ∃ r, e = .returned r ∧ OwnS W0.heap.size N1 A r w' ∧ Below w.heap.size w w')
    (hR : ∀ w, Below W0.heap.size W0 w → Calls Tryd.prog 21 #[.slice (some ⟨b, off, none⟩) (cut n) cap] w fun e w' => e = .returned (.agg (ab 32 R)) ∧ Below w.heap.size w w') : Calls Tryd.prog 34 #[.slice (some ⟨b, off, none⟩) n cap, .int .i64 ((i : Nat) : Int)] W0 fun e w' => ∃ r, e = .returned r ∧ OwnS W0.heap.size (N1 + 1) (A ++ [R]) r w' ∧ Below W0.heap.size W0 w' := by
  obtain ⟨hk1, hk2, hk3⟩ := hk
  have h1 : ((n : Int) == 1) = false := by rw [beq_eq_false_iff_ne]; omega
  have hlt : ¬ (i : Int) < (cut n : Int) := by omega
  go_enter Tryd.func34, Tryd.ntmps34
  go_wp2_with fail
  refine (cut_kr n (by omega) W0).mono ?_
  rintro e w1 ⟨rfl, hb1⟩
  go_upto_region 6 with fail
  refine wp_rel3 _ _ (PA6 b off n cap i N1 W0.heap.size A R) (fun _ w => Below W0.heap.size W0 w) PA6d (by kernel_rfl) (by kernel_rfl) 14 (by kernel_rfl) ?_ ?_ rfl (hb1.drew) ?_ ?_
  · intro ix o ho
    match ix, ho with
    | 0, ho => obtain rfl := Option.some.inj ho; exact .inl ⟨rfl, by show 26 < 39; decide⟩
    | 1, ho => obtain rfl := Option.some.inj ho; exact .inl ⟨rfl, by show 27 < 39; decide⟩
    | 2, ho => obtain rfl := Option.some.inj ho; exact .inl ⟨rfl, by show 28 < 39; decide⟩
    | 3, ho => obtain rfl := Option.some.inj ho; exact .inl ⟨rfl, by show 29 < 39; decide⟩
    | 4, ho => obtain rfl := Option.some.inj ho; exact .inl ⟨rfl, by show 30 < 39; decide⟩
    | 5, ho => obtain rfl := Option.some.inj ho; exact .inl ⟨rfl, by show 31 < 39; decide⟩
    | 6, ho => obtain rfl := Option.some.inj ho; exact .inl ⟨rfl, by show 32 < 39; decide⟩
    | 7, ho => obtain rfl := Option.some.inj ho; exact .inl ⟨rfl, by show 33 < 39; decide⟩
    | 8, ho => obtain rfl := Option.some.inj ho; exact .inl ⟨rfl, by show 34 < 39; decide⟩
    | 9, ho => obtain rfl := Option.some.inj ho; exact .inl ⟨rfl, by show 35 < 39; decide⟩
    | 10, ho => obtain rfl := Option.some.inj ho; exact .inl ⟨rfl, by show 36 < 39; decide⟩
    | 11, ho => obtain rfl := Option.some.inj ho; exact .inl ⟨rfl, by show 37 < 39; decide⟩
    | 12, ho => obtain rfl := Option.some.inj ho; exact .inl ⟨rfl, by show 38 < 39; decide⟩
    | 13, ho => obtain rfl := Option.some.inj ho; exact .inl ⟨rfl, by show 4 < 39; decide⟩
    | _ + 14, ho => exact absurd ho (by simp)
  · intro ix jx hi hj e; unfold PA6d at e; split at e <;> split at e <;> omega
  · intro ix o ho
    match ix, ho with
    | 0, ho =>
      obtain rfl := Option.some.inj ho
      intro D a w hM hsl hdep hDi hcl K hK
      have hp0 : a.tmps.getD 0 undef = .slice (some ⟨b, off, none⟩) n cap := hsl 0 (by intro j hj; unfold PA6d; split <;> omega)
      refine ⟨rfl, ?_⟩
      refine wp_val (w' := w) (v := .slice (some ⟨b, off, none⟩) n cap) (by simp only [execOp, Act.eval]; rw [show a.tmps.getD 0 undef = _ from hp0]; rfl) ?_
      exact hK _ _ rfl hM (PA6_mono b off n cap i N1 W0.heap.size A R hDi (fun _ => (Below.refl _ _)))
    | 1, ho =>
      obtain rfl := Option.some.inj ho
      intro D a w hM hsl hdep hDi hcl K hK
      have hp5 : a.tmps.getD 5 undef = .int .i64 ((cut n : Nat) : Int) := hsl 5 (by intro j hj; unfold PA6d; split <;> omega)
      refine ⟨rfl, ?_⟩
      refine wp_val (w' := w) (v := .int .i64 ((cut n : Nat) : Int)) (by simp only [execOp, Act.eval]; rw [show a.tmps.getD 5 undef = _ from hp5]; rfl) ?_
      exact hK _ _ rfl hM (PA6_mono b off n cap i N1 W0.heap.size A R hDi (fun _ => (Below.refl _ _)))
    | 2, ho =>
      obtain rfl := Option.some.inj ho
      intro D a w hM hsl hdep hDi hcl K hK
      have e0 := (hdep ⟨0, .data⟩ (by simp) rfl).1
      have e1 := (hdep ⟨1, .data⟩ (by simp) rfl).1
      refine ⟨rfl, ?_⟩
      have hl := sl_hi (b := b) (off := off) (n := n) (cap := cap) (k := cut n) (by omega) hcap w
      refine wp_val (w' := w) (v := .slice (some ⟨b, off + 32 * cut n, none⟩) (n - cut n) (cap - cut n)) (by simp only [execOp, Act.eval, Option.map_some, Option.map_none]; rw [show a.tmps.getD 26 undef = _ from e0, show a.tmps.getD 27 undef = _ from e1]; simp only [Sem.run_bind, hl, Result.andThen_ok, Sem.run_pure]) ?_
      exact hK _ _ rfl hM (PA6_mono b off n cap i N1 W0.heap.size A R hDi (fun _ => (Below.refl _ _)))
    | 3, ho =>
      obtain rfl := Option.some.inj ho
      intro D a w hM hsl hdep hDi hcl K hK
      have hp1 : a.tmps.getD 1 undef = .int .i64 ((i : Nat) : Int) := hsl 1 (by intro j hj; unfold PA6d; split <;> omega)
      refine ⟨rfl, ?_⟩
      refine wp_val (w' := w) (v := .int .i64 ((i : Nat) : Int)) (by simp only [execOp, Act.eval]; rw [show a.tmps.getD 1 undef = _ from hp1]; rfl) ?_
      exact hK _ _ rfl hM (PA6_mono b off n cap i N1 W0.heap.size A R hDi (fun _ => (Below.refl _ _)))
    | 4, ho =>
      obtain rfl := Option.some.inj ho
      intro D a w hM hsl hdep hDi hcl K hK
      have hp5 : a.tmps.getD 5 undef = .int .i64 ((cut n : Nat) : Int) := hsl 5 (by intro j hj; unfold PA6d; split <;> omega)
      refine ⟨rfl, ?_⟩
      refine wp_val (w' := w) (v := .int .i64 ((cut n : Nat) : Int)) (by simp only [execOp, Act.eval]; rw [show a.tmps.getD 5 undef = _ from hp5]; rfl) ?_
      exact hK _ _ rfl hM (PA6_mono b off n cap i N1 W0.heap.size A R hDi (fun _ => (Below.refl _ _)))
    | 5, ho =>
      obtain rfl := Option.some.inj ho
      intro D a w hM hsl hdep hDi hcl K hK
      have e3 := (hdep ⟨3, .data⟩ (by simp) rfl).1
      have e4 := (hdep ⟨4, .data⟩ (by simp) rfl).1
      refine ⟨rfl, ?_⟩
      have hl := sub_nn (x := .tmp 29) (u := .tmp 30) hci (by omega) w
      refine wp_val (w' := w) (v := .int .i64 ((i - cut n : Nat) : Int)) (by simp only [execOp, Act.eval]; rw [show a.tmps.getD 29 undef = _ from e3, show a.tmps.getD 30 undef = _ from e4]; simp only [Sem.run_bind, hl, Result.andThen_ok, Sem.run_pure]) ?_
      exact hK _ _ rfl hM (PA6_mono b off n cap i N1 W0.heap.size A R hDi (fun _ => (Below.refl _ _)))
    | 6, ho =>
      obtain rfl := Option.some.inj ho
      intro D a w hM hsl hdep hDi hcl K hK
      have e2 := (hdep ⟨2, .data⟩ (by simp) rfl).1
      have e5 := (hdep ⟨5, .data⟩ (by simp) rfl).1
      refine ⟨rfl, ?_⟩
      refine oper_any 34 #[.tmp 28, .tmp 31] _ rfl #[.slice (some ⟨b, off + 32 * cut n, none⟩) (n - cut n) (cap - cut n), .int .i64 ((i - cut n : Nat) : Int)] (by simp only [List.map_toArray, List.map_cons, List.map_nil, Act.eval]; rw [show a.tmps.getD 28 undef = _ from e2, show a.tmps.getD 31 undef = _ from e5]) (fun w => by kernel_rfl) (hP w hM) fun r w' hj => ?_
      obtain ⟨hr, hb⟩ := hj
      exact hK _ _ (fun _ => hr) (blw hM hb) (PA6_mono b off n cap i N1 W0.heap.size A R hDi (fun _ => hb))
    | 7, ho =>
      obtain rfl := Option.some.inj ho
      intro D a w hM hsl hdep hDi hcl K hK
      have hp0 : a.tmps.getD 0 undef = .slice (some ⟨b, off, none⟩) n cap := hsl 0 (by intro j hj; unfold PA6d; split <;> omega)
      refine ⟨rfl, ?_⟩
      refine wp_val (w' := w) (v := .slice (some ⟨b, off, none⟩) n cap) (by simp only [execOp, Act.eval]; rw [show a.tmps.getD 0 undef = _ from hp0]; rfl) ?_
      exact hK _ _ rfl hM (PA6_mono b off n cap i N1 W0.heap.size A R hDi (fun _ => (Below.refl _ _)))
    | 8, ho =>
      obtain rfl := Option.some.inj ho
      intro D a w hM hsl hdep hDi hcl K hK
      have hp5 : a.tmps.getD 5 undef = .int .i64 ((cut n : Nat) : Int) := hsl 5 (by intro j hj; unfold PA6d; split <;> omega)
      refine ⟨rfl, ?_⟩
      refine wp_val (w' := w) (v := .int .i64 ((cut n : Nat) : Int)) (by simp only [execOp, Act.eval]; rw [show a.tmps.getD 5 undef = _ from hp5]; rfl) ?_
      exact hK _ _ rfl hM (PA6_mono b off n cap i N1 W0.heap.size A R hDi (fun _ => (Below.refl _ _)))
    | 9, ho =>
      obtain rfl := Option.some.inj ho
      intro D a w hM hsl hdep hDi hcl K hK
      have e7 := (hdep ⟨7, .data⟩ (by simp) rfl).1
      have e8 := (hdep ⟨8, .data⟩ (by simp) rfl).1
      refine ⟨rfl, ?_⟩
      have hl := sl_lo (b := b) (off := off) (n := n) (cap := cap) (k := cut n) (by omega) hcap w
      refine wp_val (w' := w) (v := .slice (some ⟨b, off, none⟩) (cut n) cap) (by simp only [execOp, Act.eval, Option.map_some, Option.map_none]; rw [show a.tmps.getD 33 undef = _ from e7, show a.tmps.getD 34 undef = _ from e8]; simp only [Sem.run_bind, hl, Result.andThen_ok, Sem.run_pure]) ?_
      exact hK _ _ rfl hM (PA6_mono b off n cap i N1 W0.heap.size A R hDi (fun _ => (Below.refl _ _)))
    | 10, ho =>
      obtain rfl := Option.some.inj ho
      intro D a w hM hsl hdep hDi hcl K hK
      have e9 := (hdep ⟨9, .data⟩ (by simp) rfl).1
      refine ⟨rfl, ?_⟩
      refine oper_callg 21 #[.tmp 35] _ rfl #[.slice (some ⟨b, off, none⟩) (cut n) cap] (by simp only [List.map_toArray, List.map_cons, List.map_nil, Act.eval]; rw [show a.tmps.getD 35 undef = _ from e9]) (fun w => by kernel_rfl) (hR w hM) fun w' hb => ?_
      exact hK _ _ rfl (blw hM hb) (PA6_mono b off n cap i N1 W0.heap.size A R hDi (fun _ => hb))
    | 11, ho =>
      obtain rfl := Option.some.inj ho
      intro D a w hM hsl hdep hDi hcl K hK
      have e10 := (hdep ⟨10, .data⟩ (by simp) rfl).1
      refine ⟨rfl, ?_⟩
      have hl := bs_sum R w
      refine wp_val (w' := w.alloc (.cells (ab 32 R) 27)) (v := .slice (some ⟨w.heap.size, 0, none⟩) 1 1) (by simp only [execOp, Act.eval, List.map_toArray, List.map_cons, List.map_nil]; rw [show a.tmps.getD 36 undef = _ from e10]; simp only [Sem.run_bind, hl, Result.andThen_ok, Sem.run_pure]) ?_
      exact hK _ _ (fun _ => ⟨_, rfl, World.alloc_heap_new w _⟩) (blw hM ((Below.refl _ _).alloc (Nat.le_refl _) _)) (PA6_mono b off n cap i N1 W0.heap.size A R hDi (fun _ => (Below.refl _ _).alloc (Nat.le_refl _) _))
    | 12, ho =>
      obtain rfl := Option.some.inj ho
      intro D a w hM hsl hdep hDi hcl K hK
      have e6 := (hdep ⟨6, .data⟩ (by simp) rfl).1
      have e11 := (hdep ⟨11, .data⟩ (by simp) rfl).1
      refine ⟨rfl, ?_⟩
      have ho := e6 hDi
      obtain ⟨g, eg, hg⟩ := e11 hDi
      refine oper_app (.tmp 32) (.tmp 37) rfl W0.heap.size _ N1 _ rfl ho.1 (show a.tmps.getD 37 undef = _ from eg) hg hRl (by omega) ho.2 fun v' w' ho' hb' => ?_
      exact hK _ _ ⟨add1_eq, by rw [ssv_app]; exact ho', Nat.le_trans ho.2 hb'.size⟩ (hM.trans hb') (PA6_mono b off n cap i N1 W0.heap.size A R hDi (fun h => absurd rfl h))
    | 13, ho =>
      obtain rfl := Option.some.inj ho
      intro D a w hM hsl hdep hDi hcl K hK
      have e12 := (hdep ⟨12, .data⟩ (by simp) rfl).1
      refine ⟨rfl, ?_⟩
      refine wp_val (w' := w) (v := a.tmps.getD 38 undef) (by simp only [execOp, Act.eval]; rfl) ?_
      exact hK _ _ ⟨by rw [add1_ne (by decide)]; exact e12.1, e12.2⟩ hM (PA6_mono b off n cap i N1 W0.heap.size A R hDi (fun _ => (Below.refl _ _)))
    | _ + 14, ho => exact absurd ho (by simp)
  · intro D a u hall hd hs hM hsl hr
    obtain ⟨-, hv⟩ := hr 13 (by decide)
    refine (‹∀ (a : Act) (w : World), Code.wp Tryd.prog Code.ret _ a w → _›) a u ?_
    refine wp_ret ?_
    exact s_raw hd (by rw [hs]; show 4 < 39; decide) rfl Tryd.results34 ⟨_, rfl, hv, hM⟩
theorem refPath_d : ∀ (n i : Nat) (L : List (Nat → Nat)) (a : Option Addr) (cap : Nat) (W0 : World), L.length = n → i < n → n ≤ 1000 → SsAt W0 a L → n ≤ cap → Calls Tryd.prog 34 #[.slice a n cap, .int .i64 ((i : Nat) : Int)] W0 fun e w' => ∃ r, e = .returned r ∧ OwnS W0.heap.size (way i n).length (asl L (way i n)) r w' ∧ Below W0.heap.size W0 w' := by
  intro n
  induction n using Nat.strongRecOn with
  | ind n ih =>
    intro i L a cap W0 hL hi hm hs hcap
    rcases Nat.lt_or_ge n 2 with h2 | h2
    · obtain rfl : n = 1 := by omega
      obtain rfl : i = 0 := by omega
      rw [way_1]
      go_enter Tryd.func34, Tryd.ntmps34
      go_wp2
      go_ret
      exact ⟨_, rfl, ⟨World.ownsRow_nil _ _ _ _, Nat.le_refl _⟩, Below.refl _ _⟩
    · obtain ⟨b, off, rfl, hc⟩ := hs.2 (by omega)
      have hk := cut_in h2
      have l1 : (L.take (cut n)).length = cut n := by rw [List.length_take]; omega
      have l2 : (L.drop (cut n)).length = n - cut n := by rw [List.length_drop]; omega
      have b1 := root_lt _ (L.take (cut n)) rfl (fun F hF => hs.1 F (List.mem_of_mem_take hF))
      have b2 := root_lt _ (L.drop (cut n)) rfl (fun F hF => hs.1 F (List.mem_of_mem_drop hF))
      rcases Nat.lt_or_ge i (cut n) with h | h
      · rw [asl_lo hL h2 h, way_len_lo h2 h, Nat.add_comm 1]
        exact refPath_lo h2 hm hcap hk (by have := way_le i (cut n); omega) b2 h hi (fun w hw => (ih (cut n) hk.2.1 i (L.take (cut n)) _ cap w l1 h (by omega) (hs.lo.later hw) (by omega)).mono fun e w' ⟨r, e1, h1, h2⟩ => ⟨r, e1, ⟨own_weak h1.1 hw.size, Nat.le_trans hw.size h2.size⟩, h2⟩)
          (fun w hw => root_r (n - cut n) (L.drop (cut n)) _ (cap - cut n) w l2 (by omega) (hs.hi.later hw) (by omega))
      · rw [asl_hi h2 h, way_len_hi h2 h, Nat.add_comm 1]
        exact refPath_hi h2 hm hcap hk (by have := way_le (i - cut n) (n - cut n); omega) b1 h hi (fun w hw => (ih (n - cut n) (by omega) (i - cut n) (L.drop (cut n)) _ (cap - cut n) w l2 (by omega) (by omega) (hs.hi.later hw) (by omega)).mono fun e w' ⟨r, e1, h1, h2⟩ => ⟨r, e1, ⟨own_weak h1.1 hw.size, Nat.le_trans hw.size h2.size⟩, h2⟩)
          (fun w hw => root_r (cut n) (L.take (cut n)) _ cap w l1 (by omega) (hs.lo.later hw) (by omega))
end Go.Proofs.YtdofoampjlebbaaDoor

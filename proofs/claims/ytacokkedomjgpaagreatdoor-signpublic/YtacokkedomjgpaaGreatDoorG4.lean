/- R, G, H, I, M, S, T, Y, X8, U, AnyRoot, M2, Root, P1, P2, Crv1, Crv2, Sg2, SgA, N12, SgR, SgS, SgB: laid together. -/
import Derived.ProofKit
import Derived.OpenShut
import Derived.ShutString
import Derived.ChangeOld
import Derived.Lib.AppendZeros
import Derived.Test.YtacokkedomjgpaaGreatDoorG3
import Derived.Test.YtacokkedomjgpaaGreatDoorG1
import Derived.Test.YtacokkedomjgpaaGreatDoorG2
namespace Go.Proofs.YtacokkedomjgpaaGreatDoor
open Go.RowKit

theorem pw_mul {X a y e f z : Nat} (ha : a = X ^ e % pp) (hy : y = X ^ f % pp) (hz : z = a * y % pp) : z = X ^ (e + f) % pp := by
  rw [hz, ha, hy, Nat.pow_add, ← Nat.mul_mod]

theorem inv_pow {X E z s f g h l y : Nat} (hE : E = 1809251394333065553493296640760748560207343510400633813116524750123642650623) (hz : z = X ^ E % pp) (hs : s = X * X % pp) (hf : f = s * s % pp) (hg : g = f * f % pp) (hh : h = g * s % pp) (hl : l = h * X % pp)
    (hy : y = z ^ (2 ^ 5) * l % pp) (hX : X < pp) : ∃ e : Nat, e = 57896044618658097711785492504343953926634992332820282019728792003956564819947 ∧ y = X ^ e % pp := by
  have h1 : X = X ^ 1 % pp := by rw [Nat.pow_one, Nat.mod_eq_of_lt hX]
  have h2 := pw_mul h1 h1 hs
  have h4 := pw_mul h2 h2 hf
  have h8 := pw_mul h4 h4 hg
  have h10 := pw_mul h8 h2 hh
  have h11 := pw_mul h10 h1 hl
  have h := pw_step hz h11 hy
  exact ⟨_, by rw [hE], h⟩

theorem times_fn : ∃ tm : (Nat → Nat) → (Nat → Nat) → (Nat → Nat), ∀ x y, Ok x → Ok y → Ok (tm x y) ∧ Hid (nm (tm x y) = nm x * nm y % pp) ∧
    ∀ w, Calls Tryz.prog 75 #[el x, el y] w fun e w' => e = .returned (el (tm x y)) ∧ Below w.heap.size w w' := by
  have h : ∀ x, ∃ f : (Nat → Nat) → (Nat → Nat), ∀ y, Ok x → Ok y → Ok (f y) ∧ Hid (nm (f y) = nm x * nm y % pp) ∧ ∀ w, Calls Tryz.prog 75 #[el x, el y] w fun e w' => e = .returned (el (f y)) ∧ Below w.heap.size w w' := by
    intro x
    refine Classical.axiomOfChoice (r := fun y z => Ok x → Ok y → Ok z ∧ Hid (nm z = nm x * nm y % pp) ∧ ∀ w, Calls Tryz.prog 75 #[el x, el y] w fun e w' => e = .returned (el z) ∧ Below w.heap.size w w') (fun y => ?_)
    by_cases hx : Ok x
    · by_cases hy : Ok y
      · obtain ⟨z, h1, h2, h3⟩ := times_el x y hx hy
        exact ⟨z, fun _ _ => ⟨h1, h2, h3⟩⟩
      · exact ⟨x, fun _ h => absurd h hy⟩
    · exact ⟨x, fun h => absurd h hx⟩
  exact Classical.axiomOfChoice (r := fun x (f : (Nat → Nat) → (Nat → Nat)) => ∀ y, Ok x → Ok y → Ok (f y) ∧ Hid (nm (f y) = nm x * nm y % pp) ∧ ∀ w, Calls Tryz.prog 75 #[el x, el y] w fun e w' => e = .returned (el (f y)) ∧ Below w.heap.size w w') h

set_option maxRecDepth 100000 in
set_option maxHeartbeats 4000000 in
theorem inverse_any (x : Nat → Nat) (hx : Ok x) (w : World) :
    Calls Tryz.prog 83 #[el x] w fun e w' => ∃ (z : Nat → Nat) (k : Nat), Ok z ∧ Hid (k = 57896044618658097711785492504343953926634992332820282019728792003956564819947) ∧ Hid (nm z = nm x ^ k % pp) ∧ e = .returned (el z) ∧ Below w.heap.size w w' := by
  obtain ⟨s, hs, es, c1⟩ := times_el x x hx hx
  obtain ⟨f, hf, ef, c2⟩ := times_el s s hs hs
  obtain ⟨tm, htm⟩ := times_fn
  obtain ⟨hg, eg, _⟩ := htm f f hf hf
  obtain ⟨hh, eh, _⟩ := htm (tm f f) s hg hs
  obtain ⟨hl, e11, _⟩ := htm (tm (tm f f) s) x hh hx
  have ctm : ∀ x y, Ok x → Ok y → ∀ w, Calls Tryz.prog 75 #[el x, el y] w fun e w' => e = .returned (el (tm x y)) ∧ Below w.heap.size w w' := fun x y hx hy => (htm x y hx hy).2.2
  clear htm
  go_enter Tryz.func83, Tryz.ntmps83
  have ra := row2_0 w (.cells (cs x) 46) (.cells #[.int .u64 0, .int .u64 0, .int .u64 0, .int .u64 0] 46)
  have rr := row2_1 w (.cells (cs x) 46) (.cells #[.int .u64 0, .int .u64 0, .int .u64 0, .int .u64 0] 46)
  go_wp2_with fail
  refine (c1 _).mono ?_
  rintro e u1 ⟨rfl, hb1⟩
  replace ra := row_up (o := .cells (cs s) 46) (row_below ra hb1)
  replace rr := row_up (o := .cells (cs s) 46) (row_below rr hb1)
  have hw := below_up (bnext (below2 _ _ _) hb1) (.cells (cs s) 46)
  have rs := row_new u1 (.cells (cs s) 46)
  clear hb1 c1
  go_wp2_with (refine wpList_load_agg rfl 46 (.tmp 3) rfl u1.heap.size _ _ rfl Tryz.underlying46 rfl (by kernel_rfl) rs ?_)
  refine (c2 _).mono ?_
  rintro e u2 ⟨rfl, hb2⟩
  replace ra := row_up (o := .cells (cs f) 46) (row_below ra hb2)
  replace rr := row_up (o := .cells (cs f) 46) (row_below rr hb2)
  replace rs := row_up (o := .cells (cs f) 46) (row_below rs hb2)
  replace hw := below_up (bnext hw hb2) (.cells (cs f) 46)
  have rf := row_new u2 (.cells (cs f) 46)
  clear hb2 c2
  go_wp2_with fail
  generalize (u2.alloc (.cells (cs f) 46)) = U at *
  generalize u1.heap.size = ps at *
  generalize u2.heap.size = pf at *
  refine wp_region_inv (by kernel_rfl) (acyc_of (by kernel_rfl)) (fun D a wr => ∃ v5 v13 v14 v15 v16 v17 v18 v19 : Value, a = { tmps := #[el x, .pointer (some ⟨w.heap.size, 0, none⟩), .pointer (some ⟨w.heap.size + 1, 0, none⟩), .pointer (some ⟨ps, 0, none⟩), .pointer (some ⟨pf, 0, none⟩), v5, undef, el x, el x, el s, el s, el s, el f, v13, v14, v15, v16, v17, v18, v19, undef, undef, undef, undef, undef], defers := [] } ∧ (D 0 = true → v13 = el f) ∧ (D 1 = true → v14 = el f) ∧ (D 2 = true → v15 = el (tm f f)) ∧ (D 3 = true → v16 = el s) ∧ (D 4 = true → v17 = el (tm (tm f f) s)) ∧ (D 5 = true → v18 = el x) ∧ (D 6 = true → v19 = el (tm (tm (tm f f) s) x)) ∧ (D 8 = true → D 7 = true) ∧ Below U.heap.size U wr ∧ (D 7 = true → ∃ p : Nat, v5 = .pointer (some ⟨p, 0, none⟩) ∧ U.heap.size ≤ p ∧ ∃ c : Array Value, wr.heap[p]? = some (.cells c 46 (0, 0)) ∧ c.size = 4 ∧ (D 8 = true → c = (cs (tm (tm (tm f f) s) x))))) ?_ ?_ ?_
  · exact ⟨undef, undef, undef, undef, undef, undef, undef, undef, rfl, by simp, by simp, by simp, by simp, by simp, by simp, by simp, by simp, (Below.refl _ _).drew, by simp⟩
  · intro D a wr hinv i o ho hD hdep K hK
    obtain ⟨v5, v13, v14, v15, v16, v17, v18, v19, rfl, h0, h1, h2, h3, h4, h5, h6, h8, hb, h7⟩ := hinv
    have hi : i < 9 := (Array.getElem?_eq_some_iff.1 ho).1
    obtain rfl | rfl | rfl | rfl | rfl | rfl | rfl | rfl | rfl : i = 0 ∨ i = 1 ∨ i = 2 ∨ i = 3 ∨ i = 4 ∨ i = 5 ∨ i = 6 ∨ i = 7 ∨ i = 8 := by omega
    · cases ho
      refine ⟨rfl, oper_load 46 (.tmp 4) rfl pf (cs f) _ rfl Tryz.underlying46 rfl (by kernel_rfl) (row_below rf hb) (hK _ _ ⟨v5, el f, v14, v15, v16, v17, v18, v19, rfl, fun _ => rfl, fun h => h1 (by simpa using h), fun h => h2 (by simpa using h), fun h => h3 (by simpa using h), fun h => h4 (by simpa using h), fun h => h5 (by simpa using h), fun h => h6 (by simpa using h), fun h => by have := h8 (by simpa using h); simpa using this, hb, fun h => by
        obtain ⟨p, e1, e2, c, e3, e4, e5⟩ := h7 (by simpa using h)
        exact ⟨p, e1, e2, c, e3, e4, fun h => e5 (by simpa using h)⟩⟩)⟩
    · cases ho
      refine ⟨rfl, oper_load 46 (.tmp 4) rfl pf (cs f) _ rfl Tryz.underlying46 rfl (by kernel_rfl) (row_below rf hb) (hK _ _ ⟨v5, v13, el f, v15, v16, v17, v18, v19, rfl, fun h => h0 (by simpa using h), fun _ => rfl, fun h => h2 (by simpa using h), fun h => h3 (by simpa using h), fun h => h4 (by simpa using h), fun h => h5 (by simpa using h), fun h => h6 (by simpa using h), fun h => by have := h8 (by simpa using h); simpa using this, hb, fun h => by
        obtain ⟨p, e1, e2, c, e3, e4, e5⟩ := h7 (by simpa using h)
        exact ⟨p, e1, e2, c, e3, e4, fun h => e5 (by simpa using h)⟩⟩)⟩
    · cases ho
      have d0 := h0 (hdep { on := 0, ground := .data } (by simp) rfl)
      subst d0
      have d1 := h1 (hdep { on := 1, ground := .data } (by simp) rfl)
      subst d1
      refine ⟨rfl, oper_call 75 #[.tmp 13, .tmp 14] _ rfl #[el f, el f] (by simp only [List.map_toArray, List.map_cons, List.map_nil]; rfl) (fun w => by kernel_rfl) (ctm f f hf hf _) (fun w' hb' => hK _ _ ⟨v5, (el f), (el f), el (tm f f), v16, v17, v18, v19, rfl, fun _ => rfl, fun _ => rfl, fun _ => rfl, fun h => h3 (by simpa using h), fun h => h4 (by simpa using h), fun h => h5 (by simpa using h), fun h => h6 (by simpa using h), fun h => by have := h8 (by simpa using h); simpa using this, bnext hb hb', fun h => by
        obtain ⟨p, e1, e2, c, e3, e4, e5⟩ := h7 (by simpa using h)
        exact ⟨p, e1, e2, c, row_below e3 hb', e4, fun h => e5 (by simpa using h)⟩⟩)⟩
    · cases ho
      refine ⟨rfl, oper_load 46 (.tmp 3) rfl ps (cs s) _ rfl Tryz.underlying46 rfl (by kernel_rfl) (row_below rs hb) (hK _ _ ⟨v5, v13, v14, v15, el s, v17, v18, v19, rfl, fun h => h0 (by simpa using h), fun h => h1 (by simpa using h), fun h => h2 (by simpa using h), fun _ => rfl, fun h => h4 (by simpa using h), fun h => h5 (by simpa using h), fun h => h6 (by simpa using h), fun h => by have := h8 (by simpa using h); simpa using this, hb, fun h => by
        obtain ⟨p, e1, e2, c, e3, e4, e5⟩ := h7 (by simpa using h)
        exact ⟨p, e1, e2, c, e3, e4, fun h => e5 (by simpa using h)⟩⟩)⟩
    · cases ho
      have d2 := h2 (hdep { on := 2, ground := .data } (by simp) rfl)
      subst d2
      have d3 := h3 (hdep { on := 3, ground := .data } (by simp) rfl)
      subst d3
      refine ⟨rfl, oper_call 75 #[.tmp 15, .tmp 16] _ rfl #[el (tm f f), el s] (by simp only [List.map_toArray, List.map_cons, List.map_nil]; rfl) (fun w => by kernel_rfl) (ctm (tm f f) s hg hs _) (fun w' hb' => hK _ _ ⟨v5, v13, v14, (el (tm f f)), (el s), el (tm (tm f f) s), v18, v19, rfl, fun h => h0 (by simpa using h), fun h => h1 (by simpa using h), fun _ => rfl, fun _ => rfl, fun _ => rfl, fun h => h5 (by simpa using h), fun h => h6 (by simpa using h), fun h => by have := h8 (by simpa using h); simpa using this, bnext hb hb', fun h => by
        obtain ⟨p, e1, e2, c, e3, e4, e5⟩ := h7 (by simpa using h)
        exact ⟨p, e1, e2, c, row_below e3 hb', e4, fun h => e5 (by simpa using h)⟩⟩)⟩
    · cases ho
      refine ⟨rfl, oper_load 46 (.tmp 1) rfl w.heap.size (cs x) _ rfl Tryz.underlying46 rfl (by kernel_rfl) (row_below ra hb) (hK _ _ ⟨v5, v13, v14, v15, v16, v17, el x, v19, rfl, fun h => h0 (by simpa using h), fun h => h1 (by simpa using h), fun h => h2 (by simpa using h), fun h => h3 (by simpa using h), fun h => h4 (by simpa using h), fun _ => rfl, fun h => h6 (by simpa using h), fun h => by have := h8 (by simpa using h); simpa using this, hb, fun h => by
        obtain ⟨p, e1, e2, c, e3, e4, e5⟩ := h7 (by simpa using h)
        exact ⟨p, e1, e2, c, e3, e4, fun h => e5 (by simpa using h)⟩⟩)⟩
    · cases ho
      have d4 := h4 (hdep { on := 4, ground := .data } (by simp) rfl)
      subst d4
      have d5 := h5 (hdep { on := 5, ground := .data } (by simp) rfl)
      subst d5
      refine ⟨rfl, oper_call 75 #[.tmp 17, .tmp 18] _ rfl #[el (tm (tm f f) s), el x] (by simp only [List.map_toArray, List.map_cons, List.map_nil]; rfl) (fun w => by kernel_rfl) (ctm (tm (tm f f) s) x hh hx _) (fun w' hb' => hK _ _ ⟨v5, v13, v14, v15, v16, (el (tm (tm f f) s)), (el x), el (tm (tm (tm f f) s) x), rfl, fun h => h0 (by simpa using h), fun h => h1 (by simpa using h), fun h => h2 (by simpa using h), fun h => h3 (by simpa using h), fun _ => rfl, fun _ => rfl, fun _ => rfl, fun h => by have := h8 (by simpa using h); simpa using this, bnext hb hb', fun h => by
        obtain ⟨p, e1, e2, c, e3, e4, e5⟩ := h7 (by simpa using h)
        exact ⟨p, e1, e2, c, row_below e3 hb', e4, fun h => e5 (by simpa using h)⟩⟩)⟩
    · cases ho
      refine ⟨rfl, oper_alloc 46 rfl (.pointer (some ⟨wr.heap.size, 0, none⟩)) (by simp [go_sem]; rfl) (hK _ _ ⟨.pointer (some ⟨wr.heap.size, 0, none⟩), v13, v14, v15, v16, v17, v18, v19, rfl, fun h => h0 (by simpa using h), fun h => h1 (by simpa using h), fun h => h2 (by simpa using h), fun h => h3 (by simpa using h), fun h => h4 (by simpa using h), fun h => h5 (by simpa using h), fun h => h6 (by simpa using h), fun _ => rfl, bnext hb (below1 _ _), fun _ => ⟨wr.heap.size, rfl, hb.size, _, row_new _ _, rfl, fun h => absurd (h8 (by simpa using h)) (by simp [hD])⟩⟩)⟩
    · cases ho
      have d7 := hdep { on := 7, ground := .data } (by simp) rfl
      have d6 := h6 (hdep { on := 6, ground := .data } (by simp) rfl)
      subst d6
      obtain ⟨p, rfl, e2, c, e3, e4, e5⟩ := h7 d7
      refine ⟨rfl, oper_store 46 (.tmp 5) (.tmp 19) rfl p (cs (tm (tm (tm f f) s) x)) c _ rfl rfl (by kernel_rfl) e3 e4 (cs_one _) (hK _ _ ⟨_, v13, v14, v15, v16, v17, v18, _, rfl, fun h => h0 (by simpa using h), fun h => h1 (by simpa using h), fun h => h2 (by simpa using h), fun h => h3 (by simpa using h), fun h => h4 (by simpa using h), fun h => h5 (by simpa using h), fun _ => rfl, fun _ => by simpa using d7, below_setRow hb e2 _, fun _ => ⟨p, rfl, e2, _, setRow_heap _ _ _ _ _ _ e3, rfl, fun _ => rfl⟩⟩)⟩
  · intro D a wr hinv hall
    obtain ⟨v5, v13, v14, v15, v16, v17, v18, v19, rfl, h0, h1, h2, h3, h4, h5, h6, h8, hb, h7⟩ := hinv
    have a0 := h0 (hall 0 (by simp)); have a1 := h1 (hall 1 (by simp)); have a2 := h2 (hall 2 (by simp)); have a3 := h3 (hall 3 (by simp)); have a4 := h4 (hall 4 (by simp)); have a5 := h5 (hall 5 (by simp)); have a6 := h6 (hall 6 (by simp))
    obtain ⟨p, a7, e2, c, e3, e4, e5⟩ := h7 (hall 7 (by simp))
    have e6 := e5 (hall 8 (by simp))
    subst a0 a1 a2 a3 a4 a5 a6 a7 e6
    clear h0 h1 h2 h3 h4 h5 h6 h7 h8 hall e4 e5 ctm
    replace ra := row_below ra hb
    replace rr := row_below rr hb
    have rr0 := rr
    replace hw := bnext hw hb
    clear rs rf
    go_wp2_with (refine wpList_load_agg rfl 46 (.tmp 1) rfl w.heap.size _ _ rfl Tryz.underlying46 rfl (by kernel_rfl) ra ?_)
    refine (ones_any x hx _).mono ?_
    rintro e u4 ⟨z, E, b, hz, hE, ez, rfl, hbz, hb4, rb⟩
    have rp := row_below e3 hb4
    replace rr := row_below rr hb4
    have lp := row_lt e3
    have lr := hw.size
    clear e3 ra
    go_wp2_with (refine wpList_load_agg rfl 46 (.tmp 5) rfl p _ _ rfl Tryz.underlying46 rfl (by kernel_rfl) rp ?_)
    refine (grow_any 5 b (by omega) z _ hz hl _ _ rb).mono ?_
    rintro e u5 ⟨y, hy, ey, rfl, hm, rb5⟩
    have hlt := row_lt rr
    have nb : w.heap.size + 1 ≠ b := by
      intro h
      have := row_lt rr0
      omega
    replace rr := row_mod rr hm nb
    go_wp2_with (refine wpList_store_row rfl 46 (.tmp 2) (.tmp 24) rfl (w.heap.size + 1) (cs y) _ _ rfl rfl (by kernel_rfl) rr rfl (cs_one y) rfl ?_)
    have hlast : Below w.heap.size w u5 := below_mod (bnext hw hb4) hm (Nat.le_trans hw.size hbz)
    obtain ⟨k, hk1, hk2⟩ := inv_pow hE.out ez.out es.out ef.out eg.out eh.out e11.out ey.out hx.2
    exact bodyPost_ret (v := el y) (results_agg rfl _ rfl Tryz.underlying46 rfl (by kernel_rfl) (setRow_heap _ _ _ _ _ _ rr)) rfl ⟨y, k, hy, hide1 hk1, hide1 hk2, rfl, below_setRow hlast (by omega) _⟩
end Go.Proofs.YtacokkedomjgpaaGreatDoor

namespace Go.Proofs.YtacokkedomjgpaaGreatDoor
open Go.RowKit

def byt (x : Nat → Nat) (i : Nat) : Nat := x (i / 8) / 256 ^ (i % 8) % 256
def kf (x : Nat → Nat) (k j : Nat) : Value := if j < k then .int .u8 (byt x j) else .int .u8 0

theorem byt_int {x : Nat → Nat} {k j m : Nat} (hj : k / 8 = j) (hm : m = k % 8) : ((x j : Nat) : Int) / 2 ^ (m * 8) % 256 = ((byt x k : Nat) : Int) := by
  unfold byt
  rw [hj, ← hm, show (256 : Nat) = 2 ^ 8 from rfl, ← Nat.pow_mul, Nat.mul_comm 8 m]
  simp

theorem kf_next (x : Nat → Nat) (k : Nat) : arr 32 (upd (kf x k) k (.int .u8 (byt x k))) = arr 32 (kf x (k + 1)) := by
  refine arr_congr fun i _ => ?_
  unfold upd kf
  by_cases h : i = k
  · subst h; simp
  · have : (i < k + 1) = (i < k) := by simp; omega
    simp [h, this]

set_option maxHeartbeats 1000000 in
theorem key_any (x : Nat → Nat) (hx : Ok x) (w : World) :
    Calls Tryz.prog 36 #[el x] w fun e w' => e = .returned (.agg (arr 32 fun i => .int .u8 (byt x i))) ∧ Below w.heap.size w w' := by
  have x0 := hx.1 0; have x1 := hx.1 1; have x2 := hx.1 2; have x3 := hx.1 3
  have hA1 := @arr_get; have hA2 := @arr_set
  go_enter Tryz.func36, Tryz.ntmps36
  go_wp2
  go_loopw [5] (fun i wr => ∃ k : Nat, k ≤ 32 ∧ i = .int .i64 k ∧ ∃ z, z = arr 32 (fun _ => .int .u8 0) ∧ wr = ((w.alloc (.cells #[.int .u64 (x 0), .int .u64 (x 1), .int .u64 (x 2), .int .u64 (x 3)] 46)).alloc (.cells z 23)).alloc (.cells (arr 32 (kf x k)) 23)) (fun i _ => 32 - (intOf i).toNat)
  case atStart =>
    refine ⟨0, by omega, rfl, _, rfl, ?_⟩
    rw [arr_rep (f := kf x 0) (v := .int .u8 0) (fun i _ => by simp [kf]), arr_rep (v := .int .u8 0) (fun i _ => rfl)]; rfl
  case round =>
    obtain ⟨k, hk, rfl, z, rfl, rfl⟩ := hrel
    by_cases hlt : k < 32
    · have hk2 : (k : Int) < 32 := by omega
      obtain ⟨m, hm⟩ : ∃ m, Hid (m = k % 8) := ⟨_, hide1 rfl⟩
      by_cases h0 : k < 8
      · have q0 : (k : Int) / 8 = 0 := by omega
        have q1 : (k : Int) % 8 = (m : Int) := by have := hm.out; omega
        have q2 : m < 8 := by have := hm.out; omega
        have q3 : (x 0 : Int) / 2 ^ (m * 8) % 256 = ((byt x k : Nat) : Int) := byt_int (by omega) hm.out
        go_wp2
        go_roundw
        case rel => exact ⟨k + 1, by omega, by go_num, _, rfl, by rw [kf_next]⟩
        case measure => simp [intOf]; omega
      by_cases h1 : k < 16
      · have q0 : (k : Int) / 8 = 1 := by omega
        have q1 : (k : Int) % 8 = (m : Int) := by have := hm.out; omega
        have q2 : m < 8 := by have := hm.out; omega
        have q3 : (x 1 : Int) / 2 ^ (m * 8) % 256 = ((byt x k : Nat) : Int) := byt_int (by omega) hm.out
        go_wp2
        go_roundw
        case rel => exact ⟨k + 1, by omega, by go_num, _, rfl, by rw [kf_next]⟩
        case measure => simp [intOf]; omega
      by_cases h2 : k < 24
      · have q0 : (k : Int) / 8 = 2 := by omega
        have q1 : (k : Int) % 8 = (m : Int) := by have := hm.out; omega
        have q2 : m < 8 := by have := hm.out; omega
        have q3 : (x 2 : Int) / 2 ^ (m * 8) % 256 = ((byt x k : Nat) : Int) := byt_int (by omega) hm.out
        go_wp2
        go_roundw
        case rel => exact ⟨k + 1, by omega, by go_num, _, rfl, by rw [kf_next]⟩
        case measure => simp [intOf]; omega
      · have q0 : (k : Int) / 8 = 3 := by omega
        have q1 : (k : Int) % 8 = (m : Int) := by have := hm.out; omega
        have q2 : m < 8 := by have := hm.out; omega
        have q3 : (x 3 : Int) / 2 ^ (m * 8) % 256 = ((byt x k : Nat) : Int) := byt_int (by omega) hm.out
        go_wp2
        go_roundw
        case rel => exact ⟨k + 1, by omega, by go_num, _, rfl, by rw [kf_next]⟩
        case measure => simp [intOf]; omega
    · obtain rfl : k = 32 := by omega
      rw [arr_congr (n := 32) (f := kf x 32) (g := fun i => .int .u8 (byt x i)) (fun i hi => by simp [kf, hi])]
      go_wp2_with (first
        | (refine wpList_load_row rfl 23 (.tmp 3) rfl (w.heap.size + 1 + 1) _ _ rfl Tryz.underlying23 (by rw [arr_size]; kernel_rfl) (row3_2 _ _ _ _) ?_)
        | (refine wpList_store_row rfl 23 (.tmp 2) (.tmp 21) rfl (w.heap.size + 1) _ _ _ rfl rfl (by rw [arr_size]; kernel_rfl) (row3_1 _ _ _ _) (by simp [arr_size]) arr_one rfl ?_))
      exact bodyPost_ret (v := .agg (arr 32 fun i => .int .u8 (byt x i))) (results_row rfl _ rfl Tryz.underlying23 (by rw [arr_size]; kernel_rfl) (setRow_heap _ _ _ _ _ _ (row3_1 _ _ _ _))) rfl ⟨rfl, below_setRow (below3 _ _ _ _) (by omega) _⟩
end Go.Proofs.YtacokkedomjgpaaGreatDoor

namespace Go.Proofs.YtacokkedomjgpaaGreatDoor
open Go.RowKit

def rd (b : Nat → Nat) : Nat → Nat → Nat
  | 0, _ => 0
  | k + 1, j => if k / 8 = j then rd b k j + b k * 256 ^ (k % 8) else rd b k j

theorem rd_ne {b : Nat → Nat} {k j : Nat} (h : ¬ k / 8 = j) : rd b (k + 1) j = rd b k j := by rw [rd, if_neg h]

theorem rd_lt {b : Nat → Nat} (hb : ∀ i, b i < 256) : ∀ k j, rd b k j < 256 ^ (if k / 8 = j then k % 8 else if k / 8 < j then 0 else 8) := by
  intro k
  induction k with
  | zero => intro j; simp only [rd]; exact Nat.pow_pos (by omega)
  | succ k ih =>
    intro j
    have h := ih j
    by_cases e : k / 8 = j
    · rw [rd, if_pos e]
      rw [if_pos e] at h
      have h1 : (256 : Nat) ^ (k % 8 + 1) = 256 ^ (k % 8) * 256 := Nat.pow_succ 256 (k % 8)
      have h2 : (b k + 1) * 256 ^ (k % 8) ≤ 256 * 256 ^ (k % 8) := Nat.mul_le_mul_right _ (hb k)
      have h3 : (b k + 1) * 256 ^ (k % 8) = b k * 256 ^ (k % 8) + 256 ^ (k % 8) := by rw [Nat.add_mul, Nat.one_mul]
      have h4 : rd b k j + b k * 256 ^ (k % 8) < 256 ^ (k % 8 + 1) := by rw [h1, Nat.mul_comm _ 256]; omega
      by_cases e2 : (k + 1) / 8 = j
      · rw [if_pos e2, show (k + 1) % 8 = k % 8 + 1 by omega]; exact h4
      · rw [if_neg e2, if_neg (by omega)]
        have e7 : k % 8 = 7 := by omega
        rw [e7] at h4 ⊢
        exact h4
    · rw [rd_ne e]
      rw [if_neg e] at h
      by_cases e2 : (k + 1) / 8 = j
      · rw [if_pos e2, show (k + 1) % 8 = 0 by omega]
        rw [if_pos (by omega)] at h; exact h
      · rw [if_neg e2]
        by_cases e3 : k / 8 < j
        · rw [if_pos (by omega)]; rw [if_pos e3] at h; exact h
        · rw [if_neg (by omega)]; rw [if_neg e3] at h; exact h

theorem rd_word {b : Nat → Nat} (hb : ∀ i, b i < 256) (k j : Nat) : rd b k j < 18446744073709551616 := by
  have h := rd_lt hb k j
  have : (256 : Nat) ^ (if k / 8 = j then k % 8 else if k / 8 < j then 0 else 8) ≤ 256 ^ 8 := Nat.pow_le_pow_right (by omega) (by split <;> (try split) <;> omega)
  exact Nat.lt_of_lt_of_le h this

theorem rd_or {b : Nat → Nat} (hb : ∀ i, b i < 256) {k j m : Nat} (hj : k / 8 = j) (hm : m = k % 8) :
    bits .or .u64 ((rd b k j : Nat) : Int) (IntKind.u64.wrap (((b k : Nat) : Int) * 2 ^ (m * 8))) = ((rd b (k + 1) j : Nat) : Int) := by
  have h1 := rd_lt hb k j
  rw [if_pos hj, ← hm] at h1
  have hw := rd_word hb (k + 1) j
  have e : rd b (k + 1) j = rd b k j + b k * 256 ^ m := by rw [rd, if_pos hj, hm]
  have e2 : (256 : Nat) ^ m = 2 ^ (m * 8) := by rw [show (256 : Nat) = 2 ^ 8 from rfl, ← Nat.pow_mul, Nat.mul_comm]
  rw [e2] at h1 e
  have hv : b k * 2 ^ (m * 8) < 18446744073709551616 := by omega
  have e3 : IntKind.u64.wrap (((b k : Nat) : Int) * 2 ^ (m * 8)) = ((b k * 2 ^ (m * 8) : Nat) : Int) := by
    rw [show (((b k : Nat) : Int) * 2 ^ (m * 8)) = ((b k * 2 ^ (m * 8) : Nat) : Int) by simp]
    exact wrapN _ hv
  rw [e3, u64_or_nat _ _ (rd_word hb k j) hv, e]
  congr 1
  have := Nat.two_pow_add_eq_or_of_lt h1 (b k)
  rw [Nat.or_comm, Nat.mul_comm (b k), ← this, Nat.add_comm]

theorem index_key (f : Nat → Value) (k : Nat) (hk : k < 32) (w : World) : (Instr.index 23 (.agg (arr 32 f)) (.int .i64 k)).run Tryz.prog w = .ok (f k) w := by
  simp [Instr.index, go_sem, arr_get, hk]

set_option maxHeartbeats 1000000 in
theorem read_any (b : Nat → Nat) (hb : ∀ i, b i < 256) (w : World) :
    Calls Tryz.prog 73 #[.agg (arr 32 fun i => .int .u8 (b i))] w fun e w' => e = .returned (wv (rd b 32 0) (rd b 32 1) (rd b 32 2) (rd b 32 3)) ∧ Below w.heap.size w w' := by
  have hsd := @set_drewN
  obtain ⟨R, HR⟩ : ∃ R : Nat → Nat → Nat, Hid (R = rd b) := ⟨_, hide1 rfl⟩
  rw [← HR.out]
  have hR0 : ∀ j, R 0 j = 0 := fun j => by rw [HR.out]; rfl
  go_enter Tryz.func73, Tryz.ntmps73
  go_wp2_with (refine wpList_load_row rfl 23 (.tmp 1) rfl w.heap.size _ _ rfl Tryz.underlying23 (by rw [arr_size]; kernel_rfl) (row3_0 _ _ _ _) ?_)
  go_loopw [7] (fun i wr => ∃ k n : Nat, k ≤ 32 ∧ i = .int .i64 k ∧ wr = (((w.alloc (.cells (arr 32 fun i => .int .u8 (b i)) 23)).alloc (.cells #[.int .u64 0, .int .u64 0, .int .u64 0, .int .u64 0] 44)).alloc (.cells #[.int .u64 (R k 0), .int .u64 (R k 1), .int .u64 (R k 2), .int .u64 (R k 3)] 44)).drewN n) (fun i _ => 32 - (intOf i).toNat)
  case atStart => exact ⟨0, 0, by omega, rfl, by simp only [hR0]; rfl⟩
  case round =>
    obtain ⟨k, n, hk, rfl, rfl⟩ := hrel
    by_cases hlt : k < 32
    · have hk2 : (k : Int) < 32 := by omega
      have hin := index_key (fun i => .int .u8 (b i)) k hlt
      have hbk := hb k
      obtain ⟨m, hm⟩ : ∃ m, Hid (m = k % 8) := ⟨_, hide1 rfl⟩
      have q1 : (k : Int) % 8 = (m : Int) := by have := hm.out; omega
      have q2 : m < 8 := by have := hm.out; omega
      by_cases h0 : k < 8
      · have q0 : (k : Int) / 8 = 0 := by omega
        have q3 := rd_or hb (k := k) (j := 0) (by omega) hm.out
        have w0 := rd_word hb k 0
        rw [← HR.out] at q3 w0
        go_wp2
        go_region
        go_wp2
        go_roundw
        case rel => exact ⟨k + 1, n + 1, by omega, by go_num, by rw [show R (k + 1) 1 = R k 1 by rw [HR.out]; exact rd_ne (by omega), show R (k + 1) 2 = R k 2 by rw [HR.out]; exact rd_ne (by omega), show R (k + 1) 3 = R k 3 by rw [HR.out]; exact rd_ne (by omega)]⟩
        case measure => simp [intOf]; omega
      by_cases h1 : k < 16
      · have q0 : (k : Int) / 8 = 1 := by omega
        have q3 := rd_or hb (k := k) (j := 1) (by omega) hm.out
        have w0 := rd_word hb k 1
        rw [← HR.out] at q3 w0
        go_wp2
        go_region
        go_wp2
        go_roundw
        case rel => exact ⟨k + 1, n + 1, by omega, by go_num, by rw [show R (k + 1) 0 = R k 0 by rw [HR.out]; exact rd_ne (by omega), show R (k + 1) 2 = R k 2 by rw [HR.out]; exact rd_ne (by omega), show R (k + 1) 3 = R k 3 by rw [HR.out]; exact rd_ne (by omega)]⟩
        case measure => simp [intOf]; omega
      by_cases h2 : k < 24
      · have q0 : (k : Int) / 8 = 2 := by omega
        have q3 := rd_or hb (k := k) (j := 2) (by omega) hm.out
        have w0 := rd_word hb k 2
        rw [← HR.out] at q3 w0
        go_wp2
        go_region
        go_wp2
        go_roundw
        case rel => exact ⟨k + 1, n + 1, by omega, by go_num, by rw [show R (k + 1) 0 = R k 0 by rw [HR.out]; exact rd_ne (by omega), show R (k + 1) 1 = R k 1 by rw [HR.out]; exact rd_ne (by omega), show R (k + 1) 3 = R k 3 by rw [HR.out]; exact rd_ne (by omega)]⟩
        case measure => simp [intOf]; omega
      · have q0 : (k : Int) / 8 = 3 := by omega
        have q3 := rd_or hb (k := k) (j := 3) (by omega) hm.out
        have w0 := rd_word hb k 3
        rw [← HR.out] at q3 w0
        go_wp2
        go_region
        go_wp2
        go_roundw
        case rel => exact ⟨k + 1, n + 1, by omega, by go_num, by rw [show R (k + 1) 0 = R k 0 by rw [HR.out]; exact rd_ne (by omega), show R (k + 1) 1 = R k 1 by rw [HR.out]; exact rd_ne (by omega), show R (k + 1) 2 = R k 2 by rw [HR.out]; exact rd_ne (by omega)]⟩
        case measure => simp [intOf]; omega
    · obtain rfl : k = 32 := by omega
      go_wp2
      exact bodyPost_ret (v := wv (R 32 0) (R 32 1) (R 32 2) (R 32 3)) (by simp [results, Tryz.results73, go_sem]) rfl ⟨rfl, below_drewN (below3 _ _ _ _) n⟩
end Go.Proofs.YtacokkedomjgpaaGreatDoor

namespace Go.Proofs.YtacokkedomjgpaaGreatDoor
open Go.RowKit

def nb (b : Nat → Nat) : Nat → Nat
  | 0 => 0
  | k + 1 => nb b k + b k * 256 ^ k

theorem nb_lt {b : Nat → Nat} (hb : ∀ i, b i < 256) : ∀ k, nb b k < 256 ^ k := by
  intro k
  induction k with
  | zero => simp [nb]
  | succ k ih =>
    have h2 : (b k + 1) * 256 ^ k ≤ 256 * 256 ^ k := Nat.mul_le_mul_right _ (hb k)
    have h3 : (b k + 1) * 256 ^ k = b k * 256 ^ k + 256 ^ k := by rw [Nat.add_mul, Nat.one_mul]
    rw [nb, Nat.pow_succ, Nat.mul_comm _ 256]
    omega

theorem rd_nb (b : Nat → Nat) : ∀ k, k ≤ 32 → num (rd b k 0) (rd b k 1) (rd b k 2) (rd b k 3) = nb b k := by
  intro k
  induction k with
  | zero => intro _; rfl
  | succ k ih =>
    intro h
    have ih := ih (by omega)
    rw [nb, ← ih]
    have hp : (256 : Nat) ^ k = 256 ^ (8 * (k / 8)) * 256 ^ (k % 8) := by rw [← Nat.pow_add, Nat.div_add_mod]
    have hm : b k * 256 ^ k = 256 ^ (8 * (k / 8)) * (b k * 256 ^ (k % 8)) := by rw [hp, Nat.mul_left_comm]
    rw [hm]
    have c : k / 8 = 0 ∨ k / 8 = 1 ∨ k / 8 = 2 ∨ k / 8 = 3 := by omega
    rcases c with c | c | c | c
    · have r0 : rd b (k + 1) 0 = rd b k 0 + b k * 256 ^ (k % 8) := by rw [rd, if_pos c]
      have r1 : rd b (k + 1) 1 = rd b k 1 := rd_ne (by omega)
      have r2 : rd b (k + 1) 2 = rd b k 2 := rd_ne (by omega)
      have r3 : rd b (k + 1) 3 = rd b k 3 := rd_ne (by omega)
      rw [r0, r1, r2, r3, c]
      generalize b k * 256 ^ (k % 8) = v
      simp only [Nat.reduceMul, Nat.reducePow]
      unfold num
      omega
    · have r0 : rd b (k + 1) 0 = rd b k 0 := rd_ne (by omega)
      have r1 : rd b (k + 1) 1 = rd b k 1 + b k * 256 ^ (k % 8) := by rw [rd, if_pos c]
      have r2 : rd b (k + 1) 2 = rd b k 2 := rd_ne (by omega)
      have r3 : rd b (k + 1) 3 = rd b k 3 := rd_ne (by omega)
      rw [r0, r1, r2, r3, c]
      generalize b k * 256 ^ (k % 8) = v
      simp only [Nat.reduceMul, Nat.reducePow]
      unfold num
      omega
    · have r0 : rd b (k + 1) 0 = rd b k 0 := rd_ne (by omega)
      have r1 : rd b (k + 1) 1 = rd b k 1 := rd_ne (by omega)
      have r2 : rd b (k + 1) 2 = rd b k 2 + b k * 256 ^ (k % 8) := by rw [rd, if_pos c]
      have r3 : rd b (k + 1) 3 = rd b k 3 := rd_ne (by omega)
      rw [r0, r1, r2, r3, c]
      generalize b k * 256 ^ (k % 8) = v
      simp only [Nat.reduceMul, Nat.reducePow]
      unfold num
      omega
    · have r0 : rd b (k + 1) 0 = rd b k 0 := rd_ne (by omega)
      have r1 : rd b (k + 1) 1 = rd b k 1 := rd_ne (by omega)
      have r2 : rd b (k + 1) 2 = rd b k 2 := rd_ne (by omega)
      have r3 : rd b (k + 1) 3 = rd b k 3 + b k * 256 ^ (k % 8) := by rw [rd, if_pos c]
      rw [r0, r1, r2, r3, c]
      generalize b k * 256 ^ (k % 8) = v
      simp only [Nat.reduceMul, Nat.reducePow]
      unfold num
      omega

set_option maxHeartbeats 1000000 in
theorem of_any (b : Nat → Nat) (hb : ∀ i, b i < 256) :
    ∃ x : Nat → Nat, Ok x ∧ Hid (nm x = nb b 32 % 57896044618658097711785492504343953926634992332820282019728792003956564819968 % pp) ∧
    ∀ w, Calls Tryz.prog 35 #[.agg (arr 32 fun i => .int .u8 (b i))] w fun e w' => e = .returned (el x) ∧ Below w.heap.size w w' := by
  have c0 := read_any b hb
  have hn := rd_nb b 32 (by omega)
  have b0 := rd_word hb 32 0; have b1 := rd_word hb 32 1; have b2 := rd_word hb 32 2; have b3 := rd_word hb 32 3
  generalize rd b 32 0 = r0 at *
  generalize rd b 32 1 = r1 at *
  generalize rd b 32 2 = r2 at *
  generalize rd b 32 3 = r3 at *
  have c1 := low_any r0 r1 r2 r3 b3
  obtain ⟨s, hs⟩ : ∃ s, Hid (s = r3 % 9223372036854775808) := ⟨_, hide1 rfl⟩
  rw [← hs.out] at c1
  obtain ⟨x, hx, e2, c2⟩ := settle_any r0 r1 r2 s 0 b0 b1 b2 (by have := hs.out; omega) (by omega)
  refine ⟨x, hx, hide1 ?_, fun w => ?_⟩
  · rw [e2.out, ← hn]
    have := hs.out
    congr 1
    unfold num
    omega
  clear e2 hs hx hn
  have c2' : ∀ w, Calls Tryz.prog 72 #[wv r0 r1 r2 s, .int .u64 0] w fun e w' => e = .returned (el x) ∧ Below w.heap.size w w' := c2
  clear c2
  have hA1 := @aft_cell; have hA2 := @aft_frozen; have hA3 := @aft_set
  go_enter Tryz.func35, Tryz.ntmps35
  go_wp2_with (refine wpList_load_row rfl 23 (.tmp 1) rfl w.heap.size _ _ rfl Tryz.underlying23 (by rw [arr_size]; kernel_rfl) (row2_0 _ _ _) ?_)
  refine (c0 _).mono ?_
  rintro e w1 ⟨rfl, hb1⟩
  go_wp2_with fail
  refine (c1 _).mono ?_
  rintro e w2 ⟨rfl, hb2⟩
  go_wp2_with fail
  refine (c2' _).mono ?_
  rintro e w3 ⟨rfl, hb3⟩
  obtain ⟨g, rfl⟩ := aft_of (bnext (bnext hb1 hb2) hb3)
  clear hb1 hb2 hb3 c0 c1 c2'
  go_wp2_with fail
  exact bodyPost_ret (v := el x) (by simp [results, Tryz.results35, go_sem, hA1]) rfl ⟨rfl, bnext (below2 _ _ _) (aft_below _ _)⟩

end Go.Proofs.YtacokkedomjgpaaGreatDoor

namespace Go.Proofs.YtacokkedomjgpaaGreatDoor

def Prm (p : Nat) : Prop := 1 < p ∧ ∀ d, d ∣ p → d = 1 ∨ d = p

theorem Prm.cop {p a : Nat} (h : Prm p) (ha : ¬ p ∣ a) : Nat.gcd p a = 1 := by
  rcases h.2 _ (Nat.gcd_dvd_left p a) with e | e
  · exact e
  · exfalso; apply ha
    have := Nat.gcd_dvd_right p a
    rwa [e] at this

theorem Prm.euclid {p a b : Nat} (h : Prm p) (hab : p ∣ a * b) : p ∣ a ∨ p ∣ b := by
  by_cases ha : p ∣ a
  · exact Or.inl ha
  · exact Or.inr (Nat.Coprime.dvd_of_dvd_mul_left (h.cop ha) hab)

def ch : Nat → Nat → Nat
  | _, 0 => 1
  | 0, _ + 1 => 0
  | n + 1, k + 1 => ch n k + ch n (k + 1)

theorem ch_zero (n : Nat) : ch n 0 = 1 := by cases n <;> rfl
theorem ch_succ (n k : Nat) : ch (n + 1) (k + 1) = ch n k + ch n (k + 1) := rfl
theorem ch_past (n : Nat) : ∀ k, n < k → ch n k = 0 := by
  induction n with
  | zero => intro k hk; cases k with
    | zero => omega
    | succ k => rfl
  | succ n ih => intro k hk; cases k with
    | zero => omega
    | succ k => rw [ch_succ, ih k (by omega), ih (k + 1) (by omega)]

theorem ch_absorb (n : Nat) : ∀ k, (k + 1) * ch (n + 1) (k + 1) = (n + 1) * ch n k := by
  induction n with
  | zero => intro k; cases k with
    | zero => rfl
    | succ k => rw [ch_past 1 (k + 1 + 1) (by omega), ch_past 0 (k + 1) (by omega)]; simp
  | succ n ih => intro k; cases k with
    | zero =>
      have := ih 0
      rw [ch_succ, ch_zero]
      rw [ch_zero] at this
      omega
    | succ j =>
      have h1 := ih j
      have h2 := ih (j + 1)
      have h3 := ch_succ n j
      rw [ch_succ (n + 1) (j + 1)]
      have e1 : (j + 1 + 1) * (ch (n + 1) (j + 1) + ch (n + 1) (j + 1 + 1)) = (j + 1) * ch (n + 1) (j + 1) + ch (n + 1) (j + 1) + (j + 1 + 1) * ch (n + 1) (j + 1 + 1) := by
        rw [Nat.mul_add, Nat.add_mul (j + 1) 1, Nat.one_mul]
      rw [e1, h1, h2]
      have e2 : (n + 1 + 1) * ch (n + 1) (j + 1) = (n + 1) * ch (n + 1) (j + 1) + ch (n + 1) (j + 1) := by rw [Nat.add_mul (n + 1) 1, Nat.one_mul]
      have e3 : (n + 1) * ch (n + 1) (j + 1) = (n + 1) * ch n j + (n + 1) * ch n (j + 1) := by rw [h3, Nat.mul_add]
      rw [e2, e3]
      omega

def bsum (a n : Nat) : Nat → Nat
  | 0 => 0
  | m + 1 => bsum a n m + ch n m * a ^ m

theorem bsum_succ (a n : Nat) : ∀ m, bsum a (n + 1) (m + 1) = bsum a n (m + 1) + a * bsum a n m := by
  intro m
  induction m with
  | zero => simp [bsum, ch_zero]
  | succ m ih =>
    have e1 : bsum a (n + 1) (m + 1 + 1) = bsum a (n + 1) (m + 1) + ch (n + 1) (m + 1) * a ^ (m + 1) := rfl
    have e2 : bsum a n (m + 1 + 1) = bsum a n (m + 1) + ch n (m + 1) * a ^ (m + 1) := rfl
    have e3 : bsum a n (m + 1) = bsum a n m + ch n m * a ^ m := rfl
    have e4 : a * (bsum a n m + ch n m * a ^ m) = a * bsum a n m + ch n m * a ^ (m + 1) := by
      rw [Nat.mul_add, Nat.pow_succ, Nat.mul_left_comm, Nat.mul_comm a (a ^ m)]
    rw [e1, ih, e2, ch_succ, Nat.add_mul]
    conv => rhs; rw [e3, e4]
    rw [← e3]
    omega

theorem bsum_pow (a n : Nat) : bsum a n (n + 1) = (a + 1) ^ n := by
  induction n with
  | zero => simp [bsum, ch_zero]
  | succ n ih =>
    have e : bsum a n (n + 1 + 1) = bsum a n (n + 1) + ch n (n + 1) * a ^ (n + 1) := rfl
    rw [bsum_succ, e, ch_past n (n + 1) (by omega), ih, Nat.pow_succ (a + 1), Nat.mul_add, Nat.mul_comm a]
    omega

theorem ch_prime {p : Nat} (hp : Prm p) (k : Nat) (h0 : 0 < k) (hk : k < p) : p ∣ ch p k := by
  obtain ⟨j, rfl⟩ : ∃ j, k = j + 1 := ⟨k - 1, by omega⟩
  obtain ⟨q, rfl⟩ : ∃ q, p = q + 1 := ⟨p - 1, by omega⟩
  have h := ch_absorb q j
  have hd : q + 1 ∣ (j + 1) * ch (q + 1) (j + 1) := ⟨_, h⟩
  rcases hp.euclid hd with h1 | h1
  · exact absurd (Nat.le_of_dvd (by omega) h1) (by omega)
  · exact h1

theorem bsum_prime {p : Nat} (hp : Prm p) (a : Nat) : ∀ m, m < p → bsum a p (m + 1) % p = 1 % p := by
  intro m
  induction m with
  | zero => intro _; simp [bsum, ch_zero]
  | succ m ih =>
    intro h
    have e : bsum a p (m + 1 + 1) = bsum a p (m + 1) + ch p (m + 1) * a ^ (m + 1) := rfl
    obtain ⟨c, hc⟩ := ch_prime hp (m + 1) (by omega) h
    rw [e, hc, Nat.mul_assoc, Nat.add_mul_mod_self_left]
    exact ih (by omega)

theorem fresh {p : Nat} (hp : Prm p) (a : Nat) : (a + 1) ^ p % p = (a ^ p + 1) % p := by
  have h := bsum_pow a p
  obtain ⟨q, rfl⟩ : ∃ q, p = q + 1 := ⟨p - 1, by have := hp.1; omega⟩
  have e : bsum a (q + 1) (q + 1 + 1) = bsum a (q + 1) (q + 1) + ch (q + 1) (q + 1) * a ^ (q + 1) := rfl
  have hc : ch (q + 1) (q + 1) = 1 := by
    have : ∀ n, ch n n = 1 := by
      intro n
      induction n with
      | zero => rfl
      | succ n ih => rw [ch_succ, ih, ch_past n (n + 1) (by omega)]
    exact this _
  rw [← h, e, hc, Nat.one_mul, Nat.add_comm, Nat.add_mod, bsum_prime hp a q (by omega), ← Nat.add_mod]

theorem fermat_pow {p : Nat} (hp : Prm p) (a : Nat) : a ^ p % p = a % p := by
  induction a with
  | zero => rw [Nat.zero_pow (by have := hp.1; omega)]
  | succ a ih => rw [fresh hp, Nat.add_mod, ih, ← Nat.add_mod]

theorem fermat {p : Nat} (hp : Prm p) (a : Nat) (ha : ¬ p ∣ a) : a ^ (p - 1) % p = 1 := by
  have h := fermat_pow hp a
  have h1 := hp.1
  have hpos : 0 < a := by
    rcases Nat.eq_zero_or_pos a with e | e
    · exact absurd (e ▸ Nat.dvd_zero p) ha
    · exact e
  have hpow : 0 < a ^ (p - 1) := Nat.pow_pos hpos
  have e : a ^ p = a * a ^ (p - 1) := by
    conv => lhs; rw [show p = (p - 1) + 1 by omega, Nat.pow_succ, Nat.mul_comm]
  have hd : p ∣ a * (a ^ (p - 1) - 1) := by
    rw [Nat.mul_sub, ← e, Nat.mul_one]
    have hle : a ≤ a ^ p := by rw [e]; exact Nat.le_mul_of_pos_right a hpow
    refine ⟨a ^ p / p - a / p, ?_⟩
    have d1 := Nat.div_add_mod (a ^ p) p
    have d2 := Nat.div_add_mod a p
    rw [Nat.mul_sub]
    omega
  rcases hp.euclid hd with h2 | h2
  · exact absurd h2 ha
  · obtain ⟨c, hc⟩ := h2
    have : a ^ (p - 1) = p * c + 1 := by omega
    rw [this, Nat.mul_add_mod, Nat.mod_eq_of_lt h1]

theorem least (P : Nat → Prop) : ∀ n, P n → ∃ m, P m ∧ ∀ k, k < m → ¬ P k := by
  intro n
  induction n using Nat.strongRecOn with
  | _ n ih =>
    intro h
    by_cases hk : ∃ k, k < n ∧ P k
    · obtain ⟨k, h1, h2⟩ := hk
      exact ih k h1 h2
    · exact ⟨n, h, fun k h1 h2 => hk ⟨k, h1, h2⟩⟩

theorem small_factor {n : Nat} (h1 : 1 < n) (hn : ¬ Prm n) : ∃ r, Prm r ∧ r ∣ n ∧ r * r ≤ n := by
  obtain ⟨r, ⟨hr1, hrd⟩, hmin⟩ := least (fun d => 1 < d ∧ d ∣ n) n ⟨h1, Nat.dvd_refl n⟩
  have hlow : ∀ d, 1 < d → d ∣ n → r ≤ d := fun d h h' => by
    rcases Nat.lt_or_ge d r with hl | hg
    · exact absurd ⟨h, h'⟩ (hmin d hl)
    · exact hg
  have hp : Prm r := by
    refine ⟨hr1, fun d hd => ?_⟩
    have hpos : 0 < d := Nat.pos_of_dvd_of_pos hd (by omega)
    have hle : d ≤ r := Nat.le_of_dvd (by omega) hd
    by_cases h : d = 1
    · exact Or.inl h
    · have := hlow d (by omega) (Nat.dvd_trans hd hrd)
      omega
  refine ⟨r, hp, hrd, ?_⟩
  obtain ⟨c, hc⟩ := hrd
  have hc1 : 1 < c := by
    rcases Nat.lt_or_ge 1 c with h | h
    · exact h
    · exfalso
      have : c = 0 ∨ c = 1 := by omega
      rcases this with rfl | rfl
      · omega
      · rw [Nat.mul_one] at hc
        exact hn (hc ▸ hp)
  have := hlow c hc1 ⟨r, by rw [hc, Nat.mul_comm]⟩
  rw [hc]
  exact Nat.mul_le_mul_left r this

def noDiv (n : Nat) : Nat → Bool
  | 0 => true
  | k + 1 => n % (k + 2) != 0 && noDiv n k

theorem noDiv_spec (n : Nat) : ∀ k, noDiv n k = true → ∀ d, 2 ≤ d → d ≤ k + 1 → n % d ≠ 0 := by
  intro k
  induction k with
  | zero => intro _ d h1 h2; omega
  | succ k ih =>
    intro h d h1 h2
    simp only [noDiv, Bool.and_eq_true, bne_iff_ne] at h
    by_cases e : d = k + 2
    · rw [e]; exact h.1
    · exact ih h.2 d h1 (by omega)

theorem prm_small (n k : Nat) (h1 : 1 < n) (h : noDiv n k = true) (hk : n < (k + 2) * (k + 2)) : Prm n := by
  by_cases hp : Prm n
  · exact hp
  · obtain ⟨r, hr, hd, hs⟩ := small_factor h1 hp
    have h2 := hr.1
    have : r < k + 2 := by
      rcases Nat.lt_or_ge r (k + 2) with h | h
      · exact h
      · have := Nat.mul_le_mul h h; omega
    exact absurd (Nat.mod_eq_zero_of_dvd hd) (noDiv_spec n k h r (by omega) (by omega))

def pmod (a n : Nat) : Nat → Nat → Nat
  | 0, _ => 1 % n
  | f + 1, e => bif e % 2 == 1 then pmod a n f (e / 2) * pmod a n f (e / 2) % n * a % n else pmod a n f (e / 2) * pmod a n f (e / 2) % n

theorem pmod_eq (a n : Nat) : ∀ f e, e < 2 ^ f → pmod a n f e = a ^ e % n := by
  intro f
  induction f with
  | zero => intro e h; obtain rfl : e = 0 := by simpa using h
            rfl
  | succ f ih =>
    intro e h
    have hh := ih (e / 2) (by rw [Nat.pow_succ] at h; omega)
    have hsq : a ^ (e / 2) % n * (a ^ (e / 2) % n) % n = a ^ (e / 2 * 2) % n := by
      rw [← Nat.mul_mod, Nat.pow_mul, Nat.pow_two]
    rcases Nat.mod_two_eq_zero_or_one e with h0 | h0
    · simp only [pmod, h0, hh, hsq]
      show a ^ (e / 2 * 2) % n = _
      rw [show e / 2 * 2 = e by omega]
    · simp only [pmod, h0, hh, hsq]
      show a ^ (e / 2 * 2) % n * a % n = _
      rw [Nat.mod_mul_mod, ← Nat.pow_succ, show (e / 2 * 2).succ = e by omega]

theorem pow_gcd {r a : Nat} (hr : 1 < r) : ∀ m n, a ^ m % r = 1 → a ^ n % r = 1 → a ^ Nat.gcd m n % r = 1 := by
  intro m n
  induction m, n using Nat.gcd.induction with
  | H0 n => intro _ h; rwa [Nat.gcd_zero_left]
  | H1 m n hm ih =>
    intro h1 h2
    rw [Nat.gcd_rec]
    refine ih ?_ h1
    have e : a ^ n = a ^ (n % m) * (a ^ m) ^ (n / m) := by
      rw [← Nat.pow_mul, ← Nat.pow_add, Nat.mod_add_div]
    rw [e, Nat.mul_mod, Nat.pow_mod (a ^ m), h1, Nat.one_pow, Nat.mod_eq_of_lt hr, Nat.mul_one, Nat.mod_mod] at h2
    exact h2

theorem pock_step {n s m a r : Nat} (hs : Prm s) (hn : n - 1 = s * m) (h1 : a ^ (n - 1) % n = 1) (h2 : Nat.gcd (a ^ m % n + n - 1) n = 1) (hr : Prm r) (hrn : r ∣ n) (hn1 : 1 < n) : s ∣ r - 1 := by
  have hr1 := hr.1
  have g1 : a ^ (n - 1) % r = 1 := by
    have := Nat.mod_mod_of_dvd (a ^ (n - 1)) hrn
    rw [h1, Nat.mod_eq_of_lt hr1] at this
    exact this.symm
  have hra : ¬ r ∣ a := by
    intro h
    have hpos : 0 < n - 1 := by omega
    have hd : r ∣ a ^ (n - 1) := Nat.dvd_trans h ⟨a ^ (n - 1 - 1), by rw [← Nat.pow_succ', Nat.succ_eq_add_one, show n - 1 - 1 + 1 = n - 1 by omega]⟩
    rw [Nat.mod_eq_zero_of_dvd hd] at g1
    omega
  have g2 := fermat hr a hra
  have g3 := pow_gcd hr1 _ _ g2 g1
  by_cases hd : s ∣ r - 1
  · exact hd
  · exfalso
    have hcop : Nat.gcd (r - 1) s = 1 := by rw [Nat.gcd_comm]; exact hs.cop hd
    have hg : Nat.gcd (r - 1) (n - 1) ∣ m := by
      rw [hn]
      have k1 : Nat.gcd (r - 1) (s * m) ∣ s * m := Nat.gcd_dvd_right _ _
      have k2 : Nat.gcd (Nat.gcd (r - 1) (s * m)) s = 1 := by
        have : Nat.gcd (Nat.gcd (r - 1) (s * m)) s ∣ Nat.gcd (r - 1) s := Nat.dvd_gcd (Nat.dvd_trans (Nat.gcd_dvd_left _ _) (Nat.gcd_dvd_left _ _)) (Nat.gcd_dvd_right _ _)
        rw [hcop] at this
        exact Nat.dvd_one.1 this
      exact Nat.Coprime.dvd_of_dvd_mul_left k2 k1
    obtain ⟨c, hc⟩ := hg
    have g4 : a ^ m % r = 1 := by
      rw [hc, Nat.pow_mul, Nat.pow_mod, g3, Nat.one_pow, Nat.mod_eq_of_lt hr1]
    have hx : r ∣ a ^ m % n + n - 1 := by
      have e := Nat.mod_mod_of_dvd (a ^ m) hrn
      rw [g4] at e
      have k : (a ^ m % n + n - 1) % r = 0 := by
        obtain ⟨t, ht⟩ := hrn
        generalize a ^ m % n = x at *
        have hx1 : x = r * (x / r) + 1 := by have := Nat.div_add_mod x r; omega
        have : x + n - 1 = r * (x / r + t) := by rw [Nat.mul_add, ← ht]; omega
        rw [this, Nat.mul_mod_right]
      exact Nat.dvd_of_mod_eq_zero k
    have := Nat.dvd_gcd hx hrn
    rw [h2] at this
    have := Nat.dvd_one.1 this
    omega

theorem pock {n f : Nat} (h1 : 1 < n) (hf : n < f * f) (h : ∀ r, Prm r → r ∣ n → f ∣ r - 1) : Prm n := by
  by_cases hp : Prm n
  · exact hp
  · obtain ⟨r, hr, hd, hs⟩ := small_factor h1 hp
    have h2 := hr.1
    have h3 := Nat.le_of_dvd (by omega) (h r hr hd)
    have : f * f ≤ r * r := Nat.mul_le_mul (by omega) (by omega)
    omega

theorem pock2 {n s t m k a b : Nat} (hs : Prm s) (ht : Prm t) (hst : Nat.gcd s t = 1) (h1 : 1 < n) (hm : n - 1 = s * m) (hk : n - 1 = t * k) (hf : n < s * t * (s * t))
    (a1 : a ^ (n - 1) % n = 1) (a2 : Nat.gcd (a ^ m % n + n - 1) n = 1) (b1 : b ^ (n - 1) % n = 1) (b2 : Nat.gcd (b ^ k % n + n - 1) n = 1) : Prm n :=
  pock h1 hf fun _ hr hd => Nat.Coprime.mul_dvd_of_dvd_of_dvd hst (pock_step hs hm a1 a2 hr hd h1) (pock_step ht hk b1 b2 hr hd h1)

def chk (n s t m k a f : Nat) : Bool :=
  Nat.ble 2 n && Nat.beq (n - 1) (s * m) && Nat.beq (n - 1) (t * k) && Nat.ble (n + 1) (s * t * (s * t)) && Nat.beq (Nat.gcd s t) 1 && Nat.ble (n + 1) (2 ^ f) && Nat.beq (pmod a n f (n - 1)) 1 &&
    Nat.beq (Nat.gcd (pmod a n f m + n - 1) n) 1 && Nat.beq (Nat.gcd (pmod a n f k + n - 1) n) 1

theorem prm_chk {n s t m k a f : Nat} (hs : Prm s) (ht : Prm t) (h : chk n s t m k a f = true) : Prm n := by
  simp only [chk, Bool.and_eq_true, Nat.beq_eq, Nat.ble_eq] at h
  obtain ⟨⟨⟨⟨⟨⟨⟨⟨h1, h2⟩, h3⟩, h4⟩, h5⟩, h6⟩, h7⟩, h8⟩, h9⟩ := h
  have hs1 := hs.1; have ht1 := ht.1
  have b1 : m ≤ n - 1 := by rw [h2]; exact Nat.le_mul_of_pos_left m (by omega)
  have b2 : k ≤ n - 1 := by rw [h3]; exact Nat.le_mul_of_pos_left k (by omega)
  rw [pmod_eq a n f _ (by omega)] at h7 h8 h9
  exact pock2 hs ht h5 (by omega) h2 h3 (by omega) h7 h8 h7 h9

def chkOne (n s m a f : Nat) : Bool := Nat.ble 2 n && Nat.ble (n + 1) (s * s) && Nat.beq (n - 1) (s * m) && Nat.ble (n + 1) (2 ^ f) && Nat.beq (pmod a n f (n - 1)) 1 && Nat.beq (Nat.gcd (pmod a n f m + n - 1) n) 1

theorem prm_one {n s m a f : Nat} (hs : Prm s) (h : chkOne n s m a f = true) : Prm n := by
  simp only [chkOne, Bool.and_eq_true, Nat.beq_eq, Nat.ble_eq] at h
  obtain ⟨⟨⟨⟨⟨h1, h2⟩, h3⟩, h4⟩, h5⟩, h6⟩ := h
  have hs1 := hs.1
  have b1 : m ≤ n - 1 := by rw [h3]; exact Nat.le_mul_of_pos_left m (by omega)
  rw [pmod_eq a n f _ (by omega)] at h5 h6
  exact pock (by omega) (f := s) (by omega) (fun r hr hd => pock_step hs h3 h5 h6 hr hd (by omega))

theorem prm127 : Prm 127 := prm_small 127 10 (by decide) (by decide) (by decide)
theorem prm4153 : Prm 4153 := prm_small 4153 63 (by decide) (by decide +kernel) (by decide)
theorem prm75707 : Prm 75707 := prm_small 75707 274 (by decide) (by decide +kernel) (by decide)
theorem prm430751 : Prm 430751 := prm_small 430751 655 (by decide) (by decide +kernel) (by decide)
theorem prm8574133 : Prm 8574133 := prm_small 8574133 2927 (by decide) (by decide +kernel) (by decide)
theorem prmS : Prm 31757755568855353 := prm_chk prm430751 prm4153 (m := 73726481352) (k := 7646943310584) (a := 2) (f := 56) (by decide +kernel)
theorem prmT : Prm 1919519569386763 := prm_chk prm8574133 prm127 (m := 223873314) (k := 15114327318006) (a := 2) (f := 52) (by decide +kernel)
theorem prmR : Prm 75445702479781427272750846543864801 := prm_chk prmT prm75707 (m := 39304471641247389600) (k := 996548568557483816196003626400) (a := 2) (f := 117) (by decide +kernel)
theorem prmQ : Prm 74058212732561358302231226437062788676166966415465897661863160754340907 := prm_chk prmR prmS (m := 981609426360740691344999861639072106) (k := 2331972502653487852620185443007392165117953542933313402) (a := 2) (f := 237) (by decide +kernel)
theorem prmP : Prm 57896044618658097711785492504343953926634992332820282019728792003956564819949 :=
  prm_one prmQ (m := 781764) (a := 2) (f := 256) (by decide +kernel)
end Go.Proofs.YtacokkedomjgpaaGreatDoor

namespace Go.Proofs.YtacokkedomjgpaaGreatDoor
open Go.RowKit

def dig (n : Nat) : Nat → Nat := four (n % 18446744073709551616) (n / 18446744073709551616 % 18446744073709551616) (n / 340282366920938463463374607431768211456 % 18446744073709551616) (n / 6277101735386680763835789423207666416102355444464034512896 % 18446744073709551616)

theorem dig_ok {n : Nat} (h : n < pp) : Ok (dig n) ∧ nm (dig n) = n := by
  have e : nm (dig n) = n := by
    simp only [nm, dig, four]
    unfold num pp at *
    omega
  refine ⟨⟨fun i => ?_, by rw [e]; exact h⟩, e⟩
  match i with
  | 0 => exact Nat.mod_lt _ (by omega)
  | 1 => exact Nat.mod_lt _ (by omega)
  | 2 => exact Nat.mod_lt _ (by omega)
  | _ + 3 => exact Nat.mod_lt _ (by omega)

theorem el_dig {z : Nat → Nat} (hz : Ok z) {n : Nat} (e : nm z = n) : el z = el (dig n) := by
  subst e
  have h := dig_ok hz.2
  obtain ⟨a, b, c, d⟩ := (beq_words hz.1 h.1.1).1 h.2.symm
  rw [el, el, a, b, c, d]

theorem pp_pos : 0 < pp := by unfold pp; omega
theorem mod_pp (n : Nat) : n % pp < pp := Nat.mod_lt _ pp_pos

theorem plus_d {m n : Nat} (hm : m < pp) (hn : n < pp) (w : World) : Calls Tryz.prog 77 #[el (dig m), el (dig n)] w fun e w' => e = .returned (el (dig ((m + n) % pp))) ∧ Below w.heap.size w w' := by
  obtain ⟨z, hz, e, c⟩ := plus_any _ _ (dig_ok hm).1 (dig_ok hn).1
  have e := e.out; rw [(dig_ok hm).2, (dig_ok hn).2] at e
  rw [← el_dig hz e]; exact c w
theorem minus_d {m n : Nat} (hm : m < pp) (hn : n < pp) (w : World) : Calls Tryz.prog 39 #[el (dig m), el (dig n)] w fun e w' => e = .returned (el (dig ((m + (pp - n)) % pp))) ∧ Below w.heap.size w w' := by
  obtain ⟨z, hz, e, c⟩ := minus_any _ _ (dig_ok hm).1 (dig_ok hn).1
  have e := e.out; rw [(dig_ok hm).2, (dig_ok hn).2] at e
  rw [← el_dig hz e]; exact c w
theorem times_d {m n : Nat} (hm : m < pp) (hn : n < pp) (w : World) : Calls Tryz.prog 75 #[el (dig m), el (dig n)] w fun e w' => e = .returned (el (dig (m * n % pp))) ∧ Below w.heap.size w w' := by
  obtain ⟨z, hz, e, c⟩ := times_el _ _ (dig_ok hm).1 (dig_ok hn).1
  have e := e.out; rw [(dig_ok hm).2, (dig_ok hn).2] at e
  rw [← el_dig hz e]; exact c w
theorem is_d {m n : Nat} (hm : m < pp) (hn : n < pp) (w : World) : Calls Tryz.prog 38 #[el (dig m), el (dig n)] w fun e w' => e = .returned (.bool (decide (m = n))) ∧ Below w.heap.size w w' := by
  have := is_any _ _ (dig_ok hm).1 (dig_ok hn).1 w
  rwa [(dig_ok hm).2, (dig_ok hn).2] at this
theorem even_d {m : Nat} (hm : m < pp) (w : World) : Calls Tryz.prog 52 #[el (dig m)] w fun e w' => e = .returned (.bool (decide (m % 2 = 0))) ∧ Below w.heap.size w w' := by
  have := even_any _ (dig_ok hm).1 w
  rwa [(dig_ok hm).2] at this
def ofb (b : Nat → Nat) : Nat := nb b 32 % 57896044618658097711785492504343953926634992332820282019728792003956564819968 % pp
theorem of_d {b : Nat → Nat} (hb : ∀ i, b i < 256) (w : World) : Calls Tryz.prog 35 #[.agg (arr 32 fun i => .int .u8 (b i))] w fun e w' => e = .returned (el (dig (ofb b))) ∧ Below w.heap.size w w' := by
  obtain ⟨z, hz, e, c⟩ := of_any b hb
  rw [← el_dig hz (n := ofb b) e.out]; exact c w
theorem int_pos_d {m : Nat} (h : m < 9223372036854775808) (w : World) : Calls Tryz.prog 43 #[.int .i64 (m : Int)] w fun e w' => e = .returned (el (dig m)) ∧ Below w.heap.size w w' := by
  rw [← el_dig (ok_four m (by omega)).1 (ok_four m (by omega)).2]; exact int_pos m h w
theorem inverse_d {m : Nat} (hm : m < pp) : ∃ k : Nat, Hid (k = 57896044618658097711785492504343953926634992332820282019728792003956564819947) ∧ ∀ w, Calls Tryz.prog 83 #[el (dig m)] w fun e w' => e = .returned (el (dig (m ^ k % pp))) ∧ Below w.heap.size w w' := by
  obtain ⟨k, hk⟩ : ∃ k : Nat, Hid (k = 57896044618658097711785492504343953926634992332820282019728792003956564819947) := ⟨_, hide1 rfl⟩
  refine ⟨k, hk, fun w => ?_⟩
  refine (inverse_any _ (dig_ok hm).1 w).mono ?_
  rintro e w' ⟨z, k', hz, hk', ez, rfl, hb⟩
  obtain rfl : k = k' := hk.out.trans hk'.out.symm
  have ez := ez.out
  rw [(dig_ok hm).2] at ez
  exact ⟨by rw [el_dig hz ez], hb⟩

set_option maxRecDepth 100000 in
set_option maxHeartbeats 2000000 in
theorem over_d {m n : Nat} (hm : m < pp) (hn : n < pp) : ∃ k : Nat, Hid (k = 57896044618658097711785492504343953926634992332820282019728792003956564819947) ∧ ∀ w, Calls Tryz.prog 44 #[el (dig m), el (dig n)] w fun e w' => e = .returned (el (dig (m * (n ^ k % pp) % pp))) ∧ Below w.heap.size w w' := by
  obtain ⟨k, hk, c1⟩ := inverse_d hn
  refine ⟨k, hk, fun w => ?_⟩
  have c2 := fun w => times_d hm (mod_pp (n ^ k)) w
  clear hk
  generalize n ^ k % pp = r at *
  generalize m * r % pp = q at *
  have hA1 := @aft_cell; have hA2 := @aft_frozen; have hA3 := @aft_set; have hA4 := @aft_aft; have hA5 := @aft_drew_in
  go_enter Tryz.func44, Tryz.ntmps44
  go_wp2_with fail
  go_region_with (first
    | (go_at_call 83; refine (c1 _).mono ?_; rintro e w1 ⟨rfl, hb1⟩; obtain ⟨g1, rfl⟩ := aft_of hb1; clear hb1)
    | (go_at_call 75; refine (c2 _).mono ?_; rintro e w1 ⟨rfl, hb1⟩; obtain ⟨g2, rfl⟩ := aft_of hb1; clear hb1))
  all_goals go_wp2
  all_goals exact bodyPost_ret (v := el (dig q)) (by simp [results, Tryz.results44, go_sem, hA1]) rfl ⟨rfl, bnext (below3 _ _ _ _) (aft_below _ _)⟩
end Go.Proofs.YtacokkedomjgpaaGreatDoor

namespace Go.Proofs.YtacokkedomjgpaaGreatDoor
open Go.RowKit

theorem key_d {m : Nat} (hm : m < pp) (w : World) : Calls Tryz.prog 36 #[el (dig m)] w fun e w' => e = .returned (.agg (arr 32 fun i => .int .u8 (byt (dig m) i))) ∧ Below w.heap.size w w' :=
  key_any _ (dig_ok hm).1 w

theorem inv_one {m k : Nat} (hm : m < pp) (h0 : m ≠ 0) (hk : k = 57896044618658097711785492504343953926634992332820282019728792003956564819947) : m * (m ^ k % pp) % pp = 1 := by
  have hp : Prm pp := prmP
  have hd : ¬ pp ∣ m := fun h => by have := Nat.le_of_dvd (by omega) h; omega
  have h := fermat hp m hd
  have e : pp - 1 = k + 1 := by rw [hk]; rfl
  rw [e, Nat.pow_succ, Nat.mul_comm] at h
  rw [Nat.mul_mod_mod]; exact h

end Go.Proofs.YtacokkedomjgpaaGreatDoor

namespace Go.Proofs.YtacokkedomjgpaaGreatDoor
open Go.RowKit

def ce (n : Nat) : Array Value := cs (dig n)
theorem ldE {n : Nat} (t0 : TypeId) (w : World) (q : Nat) (h : w.heap[q]? = some (.cells (ce n) t0 (0, 0))) : (Instr.loadAt 46 (.pointer (some ⟨q, 0, none⟩))).run Tryz.prog w = .ok (el (dig n)) w :=
  ld_row (c := ce n) Tryz.underlying46 rfl (by kernel_rfl) w q h
theorem stE {n : Nat} {c : Array Value} (t0 : TypeId) (hc : c.size = 4) (w : World) (q : Nat) (h : w.heap[q]? = some (.cells c t0 (0, 0))) : (Instr.storeAt 46 (.pointer (some ⟨q, 0, none⟩)) (el (dig n))).run Tryz.prog w = .ok () (w.setRow q (ce n)) :=
  st_row (n := ce n) (by kernel_rfl) hc (cs_one (dig n)) w q h
theorem alE (w : World) : (Instr.alloc 46 true (.tuple #[])).run Tryz.prog w = .ok (.pointer (some ⟨w.heap.size, 0, none⟩)) (w.alloc (.cells (ce 0) 46)) := by
  simp [Instr.alloc, go_sem]
  rfl
theorem bxE {n : Nat} (w : World) : (Instr.box 46 (el (dig n))).run Tryz.prog w = .ok (.pointer (some ⟨w.heap.size, 0, none⟩)) (w.alloc (.cells (ce n) 46)) := bx_agg (c := ce n) w
theorem ce_size (n : Nat) : (ce n).size = 4 := rfl
theorem bdE (w : World) : (Instr.build 46 #[]).run Tryz.prog w = .ok (el (dig 0)) w := by kernel_rfl

theorem is_t {m n : Nat} (hm : m < pp) (hn : n < pp) (h : m = n) (w : World) : Calls Tryz.prog 38 #[el (dig m), el (dig n)] w fun e w' => e = .returned (.bool true) ∧ Below w.heap.size w w' := by
  have := is_d hm hn w
  rwa [decide_eq_true h] at this
theorem is_f {m n : Nat} (hm : m < pp) (hn : n < pp) (h : m ≠ n) (w : World) : Calls Tryz.prog 38 #[el (dig m), el (dig n)] w fun e w' => e = .returned (.bool false) ∧ Below w.heap.size w w' := by
  have := is_d hm hn w
  rwa [decide_eq_false h] at this
theorem even_b {m : Nat} {b : Bool} (hm : m < pp) (h : decide (m % 2 = 0) = b) (w : World) : Calls Tryz.prog 52 #[el (dig m)] w fun e w' => e = .returned (.bool b) ∧ Below w.heap.size w w' := by
  have := even_d hm w
  rwa [h] at this
theorem of_k {b : Nat → Nat} (hb : ∀ i, b i < 256) (w : World) : Calls Tryz.prog 35 #[.agg (ck b)] w fun e w' => e = .returned (el (dig (ofb b))) ∧ Below w.heap.size w w' := of_d hb w
end Go.Proofs.YtacokkedomjgpaaGreatDoor

namespace Go.Proofs.YtacokkedomjgpaaGreatDoor
open Go.RowKit

def ces (l : List Nat) : Array Value := (l.flatMap fun n => (cs (dig n)).toList).toArray
theorem ces_size (l : List Nat) : (ces l).size = 4 * l.length := by
  unfold ces
  simp only [List.size_toArray]
  induction l with
  | nil => rfl
  | cons n l ih => rw [List.flatMap_cons, List.length_append, ih]; simp; omega
theorem ces_get : ∀ (l : List Nat) (k n j : Nat), l[k]? = some n → j < 4 → (ces l)[4 * k + j]? = (cs (dig n))[j]? := by
  intro l
  induction l with
  | nil => intro k n j h; simp at h
  | cons m l ih =>
    intro k n j h hj
    unfold ces at *
    simp only [List.getElem?_toArray, List.flatMap_cons]
    cases k with
    | zero =>
      simp at h; subst h
      rw [List.getElem?_append_left (by simp; omega)]
      simp
    | succ k =>
      rw [List.getElem?_append_right (by simp; omega)]
      have := ih k n j (by simpa using h) hj
      simp only [List.getElem?_toArray] at this
      rw [← this]
      congr 1
      simp; omega
theorem ces_one (l : List Nat) : (ces l).all (·.oneCell') = true := by
  rw [Array.all_eq_true_iff_forall_mem]
  intro v hv
  unfold ces at hv
  simp only [List.mem_toArray, List.mem_flatMap] at hv
  obtain ⟨n, _, h⟩ := hv
  have := Array.all_eq_true_iff_forall_mem.1 (cs_one (dig n)) v (by simpa using h)
  exact this
theorem ld_ces {l : List Nat} {k n : Nat} (t0 : TypeId) (hk : l[k]? = some n) (w : World) (q : Nat) (h : w.heap[q]? = some (.cells (ces l) t0 (0, 0))) : (Instr.loadAt 46 (.pointer (some ⟨q, 4 * k, none⟩))).run Tryz.prog w = .ok (el (dig n)) w := by
  have c0 : w.cell? ⟨q, 4 * k, none⟩ = some (.int .u64 (dig n 0)) := by rw [cell_of_row _ _ _ _ _ _ h]; exact ces_get l k n 0 hk (by omega)
  have c1 : w.cell? ⟨q, 4 * k + 1, none⟩ = some (.int .u64 (dig n 1)) := by rw [cell_of_row _ _ _ _ _ _ h]; exact ces_get l k n 1 hk (by omega)
  have c2 : w.cell? ⟨q, 4 * k + 2, none⟩ = some (.int .u64 (dig n 2)) := by rw [cell_of_row _ _ _ _ _ _ h]; exact ces_get l k n 2 hk (by omega)
  have c3 : w.cell? ⟨q, 4 * k + 3, none⟩ = some (.int .u64 (dig n 3)) := by rw [cell_of_row _ _ _ _ _ _ h]; exact ces_get l k n 3 hk (by omega)
  simp [Instr.loadAt, Instr.sureAddr, go_sem, c0, c1, c2, c3]
end Go.Proofs.YtacokkedomjgpaaGreatDoor

namespace Go.Proofs.YtacokkedomjgpaaGreatDoor
open Go.RowKit

theorem cs_dig {z : Nat → Nat} (hz : Ok z) {n : Nat} (e : nm z = n) : cs z = cs (dig n) := by
  have := el_dig hz e
  simpa [el, cs] using this

theorem grow_d (t b : Nat) (ht : t < 1000) {x n : Nat} (hx : x < pp) (hn : n < pp) (t0 : TypeId) (w : World) (hrow : w.heap[b]? = some (.cells (ce x) t0 (0, 0))) :
    Calls Tryz.prog 110 #[.int .i64 t, el (dig n), .pointer (some ⟨b, 0, none⟩)] w fun e w' => e = .returned (el (dig (x ^ (2 ^ t) * n % pp))) ∧ Mod b w w' ∧ w'.heap[b]? = some (.cells (ce (x ^ (2 ^ t) * n % pp)) t0 (0, 0)) := by
  refine (grow_any t b ht _ _ (dig_ok hx).1 (dig_ok hn).1 t0 w hrow).mono ?_
  rintro e w' ⟨z, hz, ez, rfl, hm, hr⟩
  have ez := ez.out
  rw [(dig_ok hx).2, (dig_ok hn).2] at ez
  refine ⟨by rw [el_dig hz ez], hm, ?_⟩
  rw [cs_dig hz ez] at hr; exact hr

theorem ones_d {x : Nat} (hx : x < pp) : ∃ E : Nat, Hid (E = 1809251394333065553493296640760748560207343510400633813116524750123642650623) ∧ ∀ w,
    Calls Tryz.prog 101 #[el (dig x)] w fun e w' => ∃ b : Nat, e = .returned (.func (.func 110) #[] #[.pointer (some ⟨b, 0, none⟩)]) ∧ w.heap.size ≤ b ∧ Below w.heap.size w w' ∧ w'.heap[b]? = some (.cells (ce (x ^ E % pp)) 46 (0, 0)) := by
  obtain ⟨E, hE⟩ : ∃ E : Nat, Hid (E = 1809251394333065553493296640760748560207343510400633813116524750123642650623) := ⟨_, hide1 rfl⟩
  refine ⟨E, hE, fun w => ?_⟩
  refine (ones_any _ (dig_ok hx).1 w).mono ?_
  rintro e w' ⟨z, E', b, hz, hE', ez, rfl, hb, hw, hr⟩
  obtain rfl : E = E' := hE.out.trans hE'.out.symm
  have ez := ez.out
  rw [(dig_ok hx).2] at ez
  refine ⟨b, rfl, hb, hw, ?_⟩
  rw [cs_dig hz ez] at hr; exact hr

def iRt : Nat := 19681161376707505956807079304988542015446066515923890162744021073123829784752

theorem iroot_d (w : World) : Calls Tryz.prog 106 #[] w fun e w' => e = .returned (el (dig iRt)) ∧ Below w.heap.size w w' := by
  have h : el (dig iRt) = el (four 14190309331451158704 3405592160176694392 3120150775007532967 3135389899092516619) := by
    have h0 : dig iRt 0 = 14190309331451158704 := by decide +kernel
    have h1 : dig iRt 1 = 3405592160176694392 := by decide +kernel
    have h2 : dig iRt 2 = 3120150775007532967 := by decide +kernel
    have h3 : dig iRt 3 = 3135389899092516619 := by decide +kernel
    simp only [el, four, h0, h1, h2, h3]
  rw [h]
  go_enter Tryz.func106, Tryz.ntmps106
  go_wp2_with fail
  exact bodyPost_ret (v := el (four 14190309331451158704 3405592160176694392 3120150775007532967 3135389899092516619)) (by simp [results, Tryz.results106, go_sem, four]) rfl ⟨rfl, below1 _ _⟩
end Go.Proofs.YtacokkedomjgpaaGreatDoor

namespace Go.Proofs.YtacokkedomjgpaaGreatDoor
open Go.RowKit

theorem iRt_lt : iRt < pp := by decide +kernel
def aRt (R m : Nat) : Nat := if R * R % pp = m then R else R * iRt % pp
theorem aRt_lt {R m : Nat} (h : R < pp) : aRt R m < pp := by unfold aRt; split <;> first | exact h | exact mod_pp _
theorem aRt_t {R m : Nat} (h : R * R % pp = m) : aRt R m = R := if_pos h
theorem aRt_f {R m : Nat} (h : ¬ R * R % pp = m) : aRt R m = R * iRt % pp := if_neg h
theorem root_exp {m E k R : Nat} (hE : E = 1809251394333065553493296640760748560207343510400633813116524750123642650623) (hk : k = 7237005577332262213973186563042994240829374041602535252466099000494570602494) (hR : R = (m ^ E % pp) ^ 2 ^ 2 * (m * m % pp) % pp) : R = m ^ k % pp := by
  rw [hR, Nat.mul_mod_mod, ← Nat.mod_mul_mod, ← Nat.pow_mod, Nat.mod_mul_mod, ← Nat.pow_mul]
  have : m ^ (E * 2 ^ 2) * (m * m) = m ^ k := by
    rw [← Nat.pow_two, ← Nat.pow_add]
    congr 1
    rw [hE, hk]
  rw [this]

set_option maxHeartbeats 4000000 in
theorem anyRoot_d {m : Nat} (hm : m < pp) : ∃ k : Nat, Hid (k = 7237005577332262213973186563042994240829374041602535252466099000494570602494) ∧ ∀ w, Calls Tryz.prog 99 #[el (dig m)] w fun e w' => e = .returned (.tuple #[el (dig (aRt (m ^ k % pp) m)), .bool (decide (aRt (m ^ k % pp) m * aRt (m ^ k % pp) m % pp = m))]) ∧ Below w.heap.size w w' := by
  obtain ⟨E, hE, c1⟩ := ones_d hm
  have c2 := fun w => times_d hm hm w
  obtain ⟨k, hk⟩ : ∃ k : Nat, Hid (k = 7237005577332262213973186563042994240829374041602535252466099000494570602494) := ⟨_, hide1 rfl⟩
  obtain ⟨R, hR⟩ : ∃ R, Hid (R = (m ^ E % pp) ^ 2 ^ 2 * (m * m % pp) % pp) := ⟨_, hide1 rfl⟩
  have hRl : R < pp := by rw [hR.out]; exact mod_pp _
  have c48 := iroot_d
  have hi2l := iRt_lt
  have hat : ∀ R m, ¬ R * R % pp = m → aRt R m = R * iRt % pp := fun R m h => aRt_f h
  generalize iRt = i2 at c48 hi2l hat
  refine ⟨k, hk, fun W0 => ?_⟩
  rw [← root_exp hE.out hk.out hR.out]
  refine sym_enter Tryz.func99 Tryz.ntmps99 rfl [.inl (el (dig m)), .inl undef, .inl undef, .inl undef, .inl undef, .inl undef, .inl undef, .inl undef, .inl undef, .inl undef, .inl undef, .inl undef, .inl undef, .inl undef, .inl undef, .inl undef, .inl undef, .inl undef, .inl undef, .inl undef, .inl undef, .inl undef, .inl undef, .inl undef, .inl undef, .inl undef, .inl undef, .inl undef] (by kernel_rfl) (by kernel_rfl) ?_
  intro β a h; replace h := h.o0
  refine sym_seq ?_
  refine St.rg h [(1, .inr (0, pt 0)), (2, .inr (1, pt 0)), (3, .inl (.bool false))] [(ce m, 46), (ce 0, 46)] [] [eN 0, eN 1] ?_ ?_
  · exact oc (k_bx 0 (el (dig m)) (bxE (n := m)) rfl rfl) <|
    oc (k_al 1 alE rfl rfl) <|
    oz (k_mv (.inr rfl) rfl) <|
    ok_nil
  clear h; intro β a w h
  replace h := St.cs h (s' := [.inl (el (dig m)), .inr (0, pt 0), .inr (1, pt 0), .inl (.bool false), uu, uu, uu, uu, uu, uu, uu, uu, uu, uu, uu, uu, uu, uu, uu, uu, uu, uu, uu, uu, uu, uu, uu, uu]) (m' := [(ce m, 46), (ce 0, 46)]) (by kernel_rfl) (by kernel_rfl)
  refine sym_then ?_
  have ra := h.row 0 _ rfl
  have rr := h.row 1 _ rfl
  have hw := h.bel.below
  have o0 := Nat.le_of_not_lt (h.old 0 (by simp))
  have o1 := Nat.le_of_not_lt (h.old 1 (by simp))
  have n01 : β 0 ≠ β 1 := fun e => by have := h.inj 0 1 (by simp) (by simp) e; omega
  obtain rfl : a = { tmps := #[el (dig m), .pointer (some ⟨β 0, 0, none⟩), .pointer (some ⟨β 1, 0, none⟩), .bool false, undef, undef, undef, undef, undef, undef, undef, undef, undef, undef, undef, undef, undef, undef, undef, undef, undef, undef, undef, undef, undef, undef, undef, undef], defers := [] } := h.tm
  clear h
  refine seq_gen fun QQ hQQ => ?_
  go_wp2_with (refine wpList_load_agg rfl 46 (.tmp 1) rfl (β 0) _ _ rfl Tryz.underlying46 rfl (by kernel_rfl) ra ?_)
  refine (c1 _).mono ?_
  rintro e u1 ⟨b, rfl, hb, hb1, rb⟩
  have nb0 : β 0 ≠ b := by have := row_lt ra; omega
  have nb1 : β 1 ≠ b := by have := row_lt rr; omega
  have obb := Nat.le_trans hw.size hb
  replace ra := row_below ra hb1
  replace rr := row_below rr hb1
  replace hw := bnext hw hb1
  clear c1 hb1 hb
  go_wp2_with fail
  refine hQQ.out _ _ ?_
  clear hQQ QQ
  refine seq_gen fun QQ hQQ => ?_
  go_wp2_with (refine wpList_load_agg rfl 46 (.tmp 1) rfl (β 0) _ _ rfl Tryz.underlying46 rfl (by kernel_rfl) ra ?_)
  refine (c2 _).mono ?_
  rintro e u2 ⟨rfl, hb2⟩
  replace ra := row_below ra hb2
  replace rr := row_below rr hb2
  replace rb := row_below rb hb2
  replace hw := bnext hw hb2
  clear c2 hb2
  go_wp2_with fail
  refine (grow_d 2 b (by omega) (mod_pp _) (mod_pp _) _ _ rb).mono ?_
  rintro e u3 ⟨rfl, hmo, rb3⟩
  rw [← hR.out]
  replace hw := below_mod hw hmo obb
  replace ra := row_mod ra hmo nb0
  replace rr := row_mod rr hmo nb1
  have l0 := row_lt ra
  have l1 := row_lt rr
  replace ra := row_up (o := .cells (ce R) 46) ra
  replace rr := row_up (o := .cells (ce R) 46) rr
  go_wp2_with fail
  refine hQQ.out _ _ ?_
  clear hQQ QQ rb rb3 hmo
  have ry := row_new u3 (.cells (ce R) 46)
  have m0 : β 0 ≠ u3.heap.size := by omega
  have m1 : β 1 ≠ u3.heap.size := by omega
  refine with_st (st3 (W0 := W0) (s := [.inl (el (dig m)), .inr (0, pt 0), .inr (1, pt 0), .inl (.bool false), .inl (.func (.func 110) #[] #[.pointer (some ⟨b, 0, none⟩)]), .inr (2, pt 0), .inl (el (dig m)), .inl (.func (.func 110) #[] #[.pointer (some ⟨b, 0, none⟩)]), .inl (.func (.func 110) #[] #[.pointer (some ⟨b, 0, none⟩)]), .inl (el (dig m)), .inl (el (dig m)), .inl (el (dig (m * m % pp))), .inl (el (dig R)), uu, uu, uu, uu, uu, uu, uu, uu, uu, uu, uu, uu, uu, uu, uu]) (p := β 0) (q := β 1) (r := u3.heap.size) (by kernel_rfl) (below_up hw (.cells (ce R) 46)) ra rr ry o0 o1 (by have := hw.size; omega) n01 m0 m1 (by kernel_rfl)) ?_
  intro a h; replace h := h.o0
  by_cases h1 : R * R % pp = m
  · rw [aRt_t h1]
    refine sym_seq ?_
    refine sym_seq ?_
    refine St.r0 h [(13, .inl (el (dig R))), (14, .inl (el (dig R))), (15, .inl (el (dig (R * R % pp)))), (16, .inl (el (dig m))), (17, .inl (.bool true)), (18, .inl (.bool false))] [eR 2, eR 2, nn, eR 0] ?_ ?_
    · exact oc (k_ld 2 0 (el (dig R)) (c := ce R) (ldE (n := R) 46) rfl rfl) <|
      oc (k_ld 2 0 (el (dig R)) (c := ce R) (ldE (n := R) 46) rfl rfl) <|
      oc (k_ca 75 #[el (dig R), el (dig R)] (el (dig (R * R % pp))) (fun w => times_d hRl hRl w) rfl rfl) <|
      oc (k_ld 0 0 (el (dig m)) (c := ce m) (ldE (n := m) 46) rfl rfl) <|
      oz (k_ca 38 #[el (dig (R * R % pp)), el (dig m)] (.bool true) (fun w => is_t (mod_pp _) hm h1 w) rfl rfl) <|
      oz (k_nt true rfl rfl) <|
      ok_nil
    clear h; intro β a w h
    refine sym_then ?_
    refine s_cf h ?_
    refine wp_skip ?_
    refine sym_then ?_
    refine sym_seq ?_
    refine St.rg h [(22, .inl (el (dig R))), (23, .inl (el (dig R))), (24, .inl (el (dig R))), (25, .inl (el (dig (R * R % pp)))), (26, .inl (el (dig m))), (27, .inl (.bool (decide ((R * R % pp) = m)))), (3, .inl (.bool (decide ((R * R % pp) = m))))] [] [(1, ce R)] [eR 2, eR 2, eR 2, nn, eR 0, nn, eS 1] ?_ ?_
    · exact oc (k_ld 2 0 (el (dig R)) (c := ce R) (ldE (n := R) 46) rfl rfl) <|
      oc (k_ld 2 0 (el (dig R)) (c := ce R) (ldE (n := R) 46) rfl rfl) <|
      oc (k_ld 2 0 (el (dig R)) (c := ce R) (ldE (n := R) 46) rfl rfl) <|
      oc (k_ca 75 #[el (dig R), el (dig R)] (el (dig (R * R % pp))) (fun w => times_d hRl hRl w) rfl rfl) <|
      oc (k_ld 0 0 (el (dig m)) (c := ce m) (ldE (n := m) 46) rfl rfl) <|
      oc (k_ca 38 #[el (dig (R * R % pp)), el (dig m)] (.bool (decide ((R * R % pp) = m))) (fun w => is_d (mod_pp _) hm w) rfl rfl) <|
      oc (k_st 1 0 (el (dig R)) (c := ce 0) (n := ce R) (stE (n := R) (c := ce 0) 46 (ce_size _)) rfl rfl) <|
      oz (k_mv (.inr rfl) rfl) <|
      ok_nil
    clear h; intro β a w h
    refine sym_then ?_
    refine wp_ret ?_
    exact s_r2 (b := 1) (t0 := 46) (c := ce R) h Tryz.results99 Tryz.underlying46 (fun hb => ⟨rfl, hb⟩)
  · rw [hat _ _ h1]
    refine sym_seq ?_
    refine sym_seq ?_
    refine St.r0 h [(13, .inl (el (dig R))), (14, .inl (el (dig R))), (15, .inl (el (dig (R * R % pp)))), (16, .inl (el (dig m))), (17, .inl (.bool false)), (18, .inl (.bool true))] [eR 2, eR 2, nn, eR 0] ?_ ?_
    · exact oc (k_ld 2 0 (el (dig R)) (c := ce R) (ldE (n := R) 46) rfl rfl) <|
      oc (k_ld 2 0 (el (dig R)) (c := ce R) (ldE (n := R) 46) rfl rfl) <|
      oc (k_ca 75 #[el (dig R), el (dig R)] (el (dig (R * R % pp))) (fun w => times_d hRl hRl w) rfl rfl) <|
      oc (k_ld 0 0 (el (dig m)) (c := ce m) (ldE (n := m) 46) rfl rfl) <|
      oz (k_ca 38 #[el (dig (R * R % pp)), el (dig m)] (.bool false) (fun w => is_f (mod_pp _) hm h1 w) rfl rfl) <|
      oz (k_nt false rfl rfl) <|
      ok_nil
    clear h; intro β a w h
    refine sym_then ?_
    refine s_ct h ?_
    refine St.rg h [(19, .inl (el (dig R))), (20, .inl (el (dig i2))), (21, .inl (el (dig (R * i2 % pp))))] [] [(2, ce (R * i2 % pp))] [eR 2, nn, nn, eS 2] ?_ ?_
    · exact oc (k_ld 2 0 (el (dig R)) (c := ce R) (ldE (n := R) 46) rfl rfl) <|
      oc (k_ca 106 #[] (el (dig i2)) (fun w => c48 w) rfl rfl) <|
      oc (k_ca 75 #[el (dig R), el (dig i2)] (el (dig (R * i2 % pp))) (fun w => times_d hRl hi2l w) rfl rfl) <|
      oc (k_st 2 0 (el (dig (R * i2 % pp))) (c := ce R) (n := ce (R * i2 % pp)) (stE (n := (R * i2 % pp)) (c := ce R) 46 (ce_size _)) rfl rfl) <|
      ok_nil
    clear h; intro β a w h
    refine sym_then ?_
    refine sym_seq ?_
    refine St.rg h [(22, .inl (el (dig (R * i2 % pp)))), (23, .inl (el (dig (R * i2 % pp)))), (24, .inl (el (dig (R * i2 % pp)))), (25, .inl (el (dig ((R * i2 % pp) * (R * i2 % pp) % pp)))), (26, .inl (el (dig m))), (27, .inl (.bool (decide (((R * i2 % pp) * (R * i2 % pp) % pp) = m)))), (3, .inl (.bool (decide (((R * i2 % pp) * (R * i2 % pp) % pp) = m))))] [] [(1, ce (R * i2 % pp))] [eR 2, eR 2, eR 2, nn, eR 0, nn, eS 1] ?_ ?_
    · exact oc (k_ld 2 0 (el (dig (R * i2 % pp))) (c := ce (R * i2 % pp)) (ldE (n := (R * i2 % pp)) 46) rfl rfl) <|
      oc (k_ld 2 0 (el (dig (R * i2 % pp))) (c := ce (R * i2 % pp)) (ldE (n := (R * i2 % pp)) 46) rfl rfl) <|
      oc (k_ld 2 0 (el (dig (R * i2 % pp))) (c := ce (R * i2 % pp)) (ldE (n := (R * i2 % pp)) 46) rfl rfl) <|
      oc (k_ca 75 #[el (dig (R * i2 % pp)), el (dig (R * i2 % pp))] (el (dig ((R * i2 % pp) * (R * i2 % pp) % pp))) (fun w => times_d (mod_pp _) (mod_pp _) w) rfl rfl) <|
      oc (k_ld 0 0 (el (dig m)) (c := ce m) (ldE (n := m) 46) rfl rfl) <|
      oc (k_ca 38 #[el (dig ((R * i2 % pp) * (R * i2 % pp) % pp)), el (dig m)] (.bool (decide (((R * i2 % pp) * (R * i2 % pp) % pp) = m))) (fun w => is_d (mod_pp _) hm w) rfl rfl) <|
      oc (k_st 1 0 (el (dig (R * i2 % pp))) (c := ce 0) (n := ce (R * i2 % pp)) (stE (n := (R * i2 % pp)) (c := ce 0) 46 (ce_size _)) rfl rfl) <|
      oz (k_mv (.inr rfl) rfl) <|
      ok_nil
    clear h; intro β a w h
    refine sym_then ?_
    refine wp_ret ?_
    exact s_r2 (b := 1) (t0 := 46) (c := ce (R * i2 % pp)) h Tryz.results99 Tryz.underlying46 (fun hb => ⟨rfl, hb⟩)
end Go.Proofs.YtacokkedomjgpaaGreatDoor

namespace Go.Proofs.YtacokkedomjgpaaGreatDoor

theorem pp_prm : Prm pp := prmP
theorem dvd_of_mod_eq {a b n : Nat} (h : a % n = b % n) : n ∣ a - b := Nat.dvd_of_mod_eq_zero (Nat.sub_mod_eq_zero_of_mod_eq h)

theorem sq_le {S m : Nat} (hS : S < pp) (hm : m ≤ S) (h : S * S % pp = m * m % pp) : S = m ∨ S + m = pp := by
  have h1 : pp ∣ S * S - m * m := dvd_of_mod_eq h
  rw [Nat.mul_self_sub_mul_self_eq] at h1
  rcases pp_prm.euclid h1 with h2 | h2
  · by_cases e : S + m = 0
    · left; omega
    · right
      have := Nat.le_of_dvd (by omega) h2
      obtain ⟨c, hc⟩ := h2
      have : c = 1 := by
        rcases Nat.lt_or_ge c 2 with h | h
        · match c, h with
          | 0, _ => simp at hc; omega
          | 1, _ => rfl
        · have : pp * 2 ≤ pp * c := Nat.mul_le_mul_left _ h
          omega
      subst this; omega
  · left
    by_cases e : S - m = 0
    · omega
    · have := Nat.le_of_dvd (by omega) h2; omega
theorem sq_eq {S m : Nat} (hS : S < pp) (hm : m < pp) (h : S * S % pp = m * m % pp) : S = m ∨ S + m = pp := by
  rcases Nat.le_total m S with h1 | h1
  · exact sq_le hS h1 h
  · rcases sq_le hm h1 h.symm with h2 | h2
    · exact Or.inl h2.symm
    · right; omega

theorem neg_mul {S : Nat} (hS : S < pp) : S * (pp - 1) % pp = (pp - S) % pp := by
  have h : S * (pp - 1) + S = S * pp := by
    have := pp_pos
    rw [← Nat.mul_succ, Nat.succ_eq_add_one, Nat.sub_add_cancel this]
  rcases Nat.eq_zero_or_pos S with h0 | h0
  · subst h0; simp
  · have h2 : S * (pp - 1) = (pp - S) + (S - 1) * pp := by
      have h3 : S * pp = (S - 1) * pp + pp := by
        rw [← Nat.succ_mul, Nat.succ_eq_add_one, Nat.sub_add_cancel h0]
      omega
    rw [h2, Nat.add_mul_mod_self_right]

theorem iRt_sq : iRt * iRt % pp = pp - 1 := by decide +kernel

theorem sq_neg {y : Nat} (hy : y ≤ pp) : (pp - y) * (pp - y) % pp = y * y % pp := by
  obtain ⟨d, hd⟩ : ∃ d, pp = y + d := ⟨pp - y, by omega⟩
  have e1 : (pp - y) * (pp - y) + y * pp = y * y + (pp - y) * pp := by
    have e2 : pp - y = d := by omega
    rw [e2, hd, Nat.mul_add, Nat.mul_add, Nat.mul_comm d y]
    omega
  have h1 : ((pp - y) * (pp - y) + y * pp) % pp = (pp - y) * (pp - y) % pp := Nat.add_mul_mod_self_right _ _ _
  have h2 : (y * y + (pp - y) * pp) % pp = y * y % pp := Nat.add_mul_mod_self_right _ _ _
  rw [← h1, e1, h2]

theorem root_of_one {m h k R : Nat} (hm : m < pp) (hk : 4 * k = h + 2) (h1 : m ^ h % pp = 1) (hR : R = m ^ k % pp) : aRt R m * aRt R m % pp = m := by
  have hS : (R * R % pp) * (R * R % pp) % pp = m * m % pp := by
    have e : (R * R % pp) * (R * R % pp) % pp = m ^ (4 * k) % pp := by
      rw [← Nat.mul_mod, hR, ← Nat.mul_mod_mod, ← Nat.mod_mul_mod]
      have e1 : m ^ k % pp * (m ^ k % pp) % pp = m ^ (k + k) % pp := by rw [← Nat.mul_mod, Nat.pow_add]
      rw [e1, ← Nat.mul_mod, ← Nat.pow_add]
      congr 2
      omega
    rw [e, hk, Nat.pow_add, ← Nat.mod_mul_mod, h1, Nat.one_mul, Nat.pow_two]
  rcases sq_eq (mod_pp _) hm hS with h2 | h2
  · rw [aRt_t h2]; exact h2
  · by_cases h3 : R * R % pp = m
    · rw [aRt_t h3]; exact h3
    · rw [aRt_f h3]
      have e2 : R * iRt * (R * iRt) = R * R * (iRt * iRt) := by
        rw [Nat.mul_assoc, Nat.mul_assoc]; congr 1
        rw [← Nat.mul_assoc, ← Nat.mul_assoc, Nat.mul_comm iRt R]
      rw [← Nat.mul_mod, e2, ← Nat.mod_mul_mod, ← Nat.mul_mod_mod, iRt_sq, neg_mul (mod_pp _)]
      have : pp - R * R % pp = m := by omega
      rw [this, Nat.mod_eq_of_lt hm]
theorem one_of_root {m y h : Nat} (hh : 2 * h + 1 = pp) (h0 : m ≠ 0) (hy : y * y % pp = m) : m ^ h % pp = 1 := by
  have hd : ¬ pp ∣ y := by
    rintro ⟨c, rfl⟩
    rw [Nat.mul_assoc, Nat.mul_mod_right] at hy
    exact h0 hy.symm
  have hf := fermat pp_prm y hd
  rw [← hy, ← Nat.pow_mod, ← Nat.pow_two, ← Nat.pow_mul]
  rw [show 2 * h = pp - 1 by omega]; exact hf
theorem mul_pow_mod {a b h : Nat} : (a * b % pp) ^ h % pp = (a ^ h % pp) * (b ^ h % pp) % pp := by
  rw [← Nat.pow_mod, Nat.mul_pow, ← Nat.mul_mod]
theorem mul_ne {a b : Nat} (ha : a < pp) (hb : b < pp) (h1 : a ≠ 0) (h2 : b ≠ 0) : a * b % pp ≠ 0 := by
  intro h
  rcases pp_prm.euclid (Nat.dvd_of_mod_eq_zero h) with h3 | h3
  · have := Nat.le_of_dvd (by omega) h3; omega
  · have := Nat.le_of_dvd (by omega) h3; omega

def evn (y : Nat) : Nat := if y % 2 = 0 then y else (0 + (pp - y)) % pp
theorem evn_t {y : Nat} (h : y % 2 = 0) : evn y = y := if_pos h
theorem evn_f {y : Nat} (h : ¬ y % 2 = 0) : evn y = (0 + (pp - y)) % pp := if_neg h
theorem pp_odd : pp % 2 = 1 := by decide +kernel
theorem evn_spec {y : Nat} (hy : y < pp) : evn y < pp ∧ evn y % 2 = 0 ∧ evn y * evn y % pp = y * y % pp := by
  by_cases h : y % 2 = 0
  · rw [evn_t h]; exact ⟨hy, h, rfl⟩
  · have h1 : (0 + (pp - y)) % pp = pp - y := by rw [Nat.zero_add, Nat.mod_eq_of_lt (by omega)]
    rw [evn_f h, h1]
    have := pp_odd
    exact ⟨by omega, by omega, sq_neg (by omega)⟩
end Go.Proofs.YtacokkedomjgpaaGreatDoor

namespace Go.Proofs.YtacokkedomjgpaaGreatDoor
open Go.RowKit

theorem root_no {m y : Nat} (c1 : ∀ w, Calls Tryz.prog 99 #[el (dig m)] w fun e w' => e = .returned (.tuple #[el (dig y), .bool false]) ∧ Below w.heap.size w w') (w : World) :
    Calls Tryz.prog 78 #[el (dig m)] w fun e w' => e = .returned (.tuple #[el (dig 0), .bool false]) ∧ Below w.heap.size w w' := by
    refine s_in Tryz.func78 Tryz.ntmps78 rfl [.inl (el (dig m))] ?_
    intro β a h
    refine sym_seq ?_
    refine St.rg h [(1, .inr (0, pt 0)), (2, .inr (1, pt 0)), (3, .inl (.bool false))] [(ce m, 46), (ce 0, 46)] [] [eN 0, eN 1] ?_ ?_
    · exact oc (k_bx 0 (el (dig m)) (bxE (n := m)) rfl rfl) <|
      oc (k_al 1 alE rfl rfl) <|
      oz (k_mv (.inr rfl) rfl) <|
      ok_nil
    clear h; intro β a w h
    refine sym_then ?_
    refine sym_seq ?_
    refine St.rg h [(7, .inl (el (dig m))), (8, .inl (.tuple #[el (dig y), .bool false])), (6, .inl (.tuple #[el (dig y), .bool false])), (9, .inl (el (dig y))), (10, .inl (.bool false)), (4, .inr (2, pt 0)), (5, .inl (.bool false))] [(ce 0, 46)] [(2, ce y)] [eR 0, nn, nn, nn, nn, eN 2, eS 2] ?_ ?_
    · exact oc (k_ld 0 0 (el (dig m)) (c := ce m) (ldE (n := m) 46) rfl rfl) <|
      oc (k_ca 99 #[el (dig m)] (.tuple #[el (dig y), .bool false]) c1 rfl rfl) <|
      oc (k_mv (.inl rfl) rfl) <|
      oc (k_ex (.tuple #[el (dig y), .bool false]) (el (dig y)) rfl rfl) <|
      oc (k_ex (.tuple #[el (dig y), .bool false]) (.bool false) rfl rfl) <|
      oc (k_al 2 alE rfl rfl) <|
      oc (k_st 2 0 (el (dig y)) (c := ce 0) (n := ce y) (stE (n := y) (c := ce 0) 46 (ce_size _)) rfl rfl) <|
      oz (k_mv (.inr rfl) rfl) <|
      ok_nil
    clear h; intro β a w h
    refine sym_then ?_
    refine sym_seq ?_
    refine sym_seq ?_
    refine St.r0 h [(11, .inl (.bool false)), (12, .inl (.bool true))] [] ?_ ?_
    · exact oz (k_mv (.inl rfl) rfl) <|
      oz (k_nt false rfl rfl) <|
      ok_nil
    clear h; intro β a w h
    refine sym_then ?_
    refine s_ct h ?_
    refine sym_seq ?_
    refine St.rg h [(13, .inl (el (dig 0)))] [] [(1, ce 0)] [nn, eS 1] ?_ ?_
    · exact oc (k_bu #[] (el (dig 0)) bdE rfl rfl) <|
      oc (k_st 1 0 (el (dig 0)) (c := ce 0) (n := ce 0) (stE (n := 0) (c := ce 0) 46 (ce_size _)) rfl rfl) <|
      oz (k_mv (.inr rfl) rfl) <|
      ok_nil
    clear h; intro β a w h
    refine sym_then ?_
    refine wp_ret ?_
    refine then_ret ?_
    exact s_r2 (b := 1) (t0 := 46) (c := ce 0) h Tryz.results78 Tryz.underlying46 (fun hb => ⟨rfl, hb⟩)
theorem root_ev {m y : Nat} (hy : y < pp) (hev : decide (y % 2 = 0) = true) (c1 : ∀ w, Calls Tryz.prog 99 #[el (dig m)] w fun e w' => e = .returned (.tuple #[el (dig y), .bool true]) ∧ Below w.heap.size w w') (w : World) :
    Calls Tryz.prog 78 #[el (dig m)] w fun e w' => e = .returned (.tuple #[el (dig y), .bool true]) ∧ Below w.heap.size w w' := by
    refine s_in Tryz.func78 Tryz.ntmps78 rfl [.inl (el (dig m))] ?_
    intro β a h
    refine sym_seq ?_
    refine St.rg h [(1, .inr (0, pt 0)), (2, .inr (1, pt 0)), (3, .inl (.bool false))] [(ce m, 46), (ce 0, 46)] [] [eN 0, eN 1] ?_ ?_
    · exact oc (k_bx 0 (el (dig m)) (bxE (n := m)) rfl rfl) <|
      oc (k_al 1 alE rfl rfl) <|
      oz (k_mv (.inr rfl) rfl) <|
      ok_nil
    clear h; intro β a w h
    refine sym_then ?_
    refine sym_seq ?_
    refine St.rg h [(7, .inl (el (dig m))), (8, .inl (.tuple #[el (dig y), .bool true])), (6, .inl (.tuple #[el (dig y), .bool true])), (9, .inl (el (dig y))), (10, .inl (.bool true)), (4, .inr (2, pt 0)), (5, .inl (.bool true))] [(ce 0, 46)] [(2, ce y)] [eR 0, nn, nn, nn, nn, eN 2, eS 2] ?_ ?_
    · exact oc (k_ld 0 0 (el (dig m)) (c := ce m) (ldE (n := m) 46) rfl rfl) <|
      oc (k_ca 99 #[el (dig m)] (.tuple #[el (dig y), .bool true]) c1 rfl rfl) <|
      oc (k_mv (.inl rfl) rfl) <|
      oc (k_ex (.tuple #[el (dig y), .bool true]) (el (dig y)) rfl rfl) <|
      oc (k_ex (.tuple #[el (dig y), .bool true]) (.bool true) rfl rfl) <|
      oc (k_al 2 alE rfl rfl) <|
      oc (k_st 2 0 (el (dig y)) (c := ce 0) (n := ce y) (stE (n := y) (c := ce 0) 46 (ce_size _)) rfl rfl) <|
      oz (k_mv (.inr rfl) rfl) <|
      ok_nil
    clear h; intro β a w h
    refine sym_then ?_
    refine sym_seq ?_
    refine sym_seq ?_
    refine St.r0 h [(11, .inl (.bool true)), (12, .inl (.bool false))] [] ?_ ?_
    · exact oz (k_mv (.inl rfl) rfl) <|
      oz (k_nt true rfl rfl) <|
      ok_nil
    clear h; intro β a w h
    refine sym_then ?_
    refine s_cf h ?_
    refine wp_skip ?_
    refine sym_then ?_
    refine sym_seq ?_
    refine sym_seq ?_
    refine St.r0 h [(14, .inl (el (dig y))), (15, .inl (.bool true)), (16, .inl (.bool false))] [eR 2] ?_ ?_
    · exact oc (k_ld 2 0 (el (dig y)) (c := ce y) (ldE (n := y) 46) rfl rfl) <|
      oz (k_ca 52 #[el (dig y)] (.bool true) (fun w => even_b hy hev w) rfl rfl) <|
      oz (k_nt true rfl rfl) <|
      ok_nil
    clear h; intro β a w h
    refine sym_then ?_
    refine s_cf h ?_
    refine wp_skip ?_
    refine sym_then ?_
    refine sym_seq ?_
    refine St.rg h [(20, .inl (el (dig y))), (3, .inl (.bool true))] [] [(1, ce y)] [eR 2, eS 1] ?_ ?_
    · exact oc (k_ld 2 0 (el (dig y)) (c := ce y) (ldE (n := y) 46) rfl rfl) <|
      oc (k_st 1 0 (el (dig y)) (c := ce 0) (n := ce y) (stE (n := y) (c := ce 0) 46 (ce_size _)) rfl rfl) <|
      oz (k_mv (.inr rfl) rfl) <|
      ok_nil
    clear h; intro β a w h
    refine sym_then ?_
    refine wp_ret ?_
    exact s_r2 (b := 1) (t0 := 46) (c := ce y) h Tryz.results78 Tryz.underlying46 (fun hb => ⟨rfl, hb⟩)
theorem root_od {m y : Nat} (hy : y < pp) (hev : decide (y % 2 = 0) = false) (c1 : ∀ w, Calls Tryz.prog 99 #[el (dig m)] w fun e w' => e = .returned (.tuple #[el (dig y), .bool true]) ∧ Below w.heap.size w w') (w : World) :
    Calls Tryz.prog 78 #[el (dig m)] w fun e w' => e = .returned (.tuple #[el (dig ((0 + (pp - y)) % pp)), .bool true]) ∧ Below w.heap.size w w' := by
    refine s_in Tryz.func78 Tryz.ntmps78 rfl [.inl (el (dig m))] ?_
    intro β a h
    refine sym_seq ?_
    refine St.rg h [(1, .inr (0, pt 0)), (2, .inr (1, pt 0)), (3, .inl (.bool false))] [(ce m, 46), (ce 0, 46)] [] [eN 0, eN 1] ?_ ?_
    · exact oc (k_bx 0 (el (dig m)) (bxE (n := m)) rfl rfl) <|
      oc (k_al 1 alE rfl rfl) <|
      oz (k_mv (.inr rfl) rfl) <|
      ok_nil
    clear h; intro β a w h
    refine sym_then ?_
    refine sym_seq ?_
    refine St.rg h [(7, .inl (el (dig m))), (8, .inl (.tuple #[el (dig y), .bool true])), (6, .inl (.tuple #[el (dig y), .bool true])), (9, .inl (el (dig y))), (10, .inl (.bool true)), (4, .inr (2, pt 0)), (5, .inl (.bool true))] [(ce 0, 46)] [(2, ce y)] [eR 0, nn, nn, nn, nn, eN 2, eS 2] ?_ ?_
    · exact oc (k_ld 0 0 (el (dig m)) (c := ce m) (ldE (n := m) 46) rfl rfl) <|
      oc (k_ca 99 #[el (dig m)] (.tuple #[el (dig y), .bool true]) c1 rfl rfl) <|
      oc (k_mv (.inl rfl) rfl) <|
      oc (k_ex (.tuple #[el (dig y), .bool true]) (el (dig y)) rfl rfl) <|
      oc (k_ex (.tuple #[el (dig y), .bool true]) (.bool true) rfl rfl) <|
      oc (k_al 2 alE rfl rfl) <|
      oc (k_st 2 0 (el (dig y)) (c := ce 0) (n := ce y) (stE (n := y) (c := ce 0) 46 (ce_size _)) rfl rfl) <|
      oz (k_mv (.inr rfl) rfl) <|
      ok_nil
    clear h; intro β a w h
    refine sym_then ?_
    refine sym_seq ?_
    refine sym_seq ?_
    refine St.r0 h [(11, .inl (.bool true)), (12, .inl (.bool false))] [] ?_ ?_
    · exact oz (k_mv (.inl rfl) rfl) <|
      oz (k_nt true rfl rfl) <|
      ok_nil
    clear h; intro β a w h
    refine sym_then ?_
    refine s_cf h ?_
    refine wp_skip ?_
    refine sym_then ?_
    refine sym_seq ?_
    refine sym_seq ?_
    refine St.r0 h [(14, .inl (el (dig y))), (15, .inl (.bool false)), (16, .inl (.bool true))] [eR 2] ?_ ?_
    · exact oc (k_ld 2 0 (el (dig y)) (c := ce y) (ldE (n := y) 46) rfl rfl) <|
      oz (k_ca 52 #[el (dig y)] (.bool false) (fun w => even_b hy hev w) rfl rfl) <|
      oz (k_nt false rfl rfl) <|
      ok_nil
    clear h; intro β a w h
    refine sym_then ?_
    refine s_ct h ?_
    refine St.rg h [(17, .inl (el (dig 0))), (18, .inl (el (dig y))), (19, .inl (el (dig ((0 + (pp - y)) % pp))))] [] [(2, ce ((0 + (pp - y)) % pp))] [nn, eR 2, nn, eS 2] ?_ ?_
    · exact oc (k_bu #[] (el (dig 0)) bdE rfl rfl) <|
      oc (k_ld 2 0 (el (dig y)) (c := ce y) (ldE (n := y) 46) rfl rfl) <|
      oc (k_ca 39 #[el (dig 0), el (dig y)] (el (dig ((0 + (pp - y)) % pp))) (fun w => minus_d (by decide +kernel) hy w) rfl rfl) <|
      oc (k_st 2 0 (el (dig ((0 + (pp - y)) % pp))) (c := ce y) (n := ce ((0 + (pp - y)) % pp)) (stE (n := ((0 + (pp - y)) % pp)) (c := ce y) 46 (ce_size _)) rfl rfl) <|
      ok_nil
    clear h; intro β a w h
    refine sym_then ?_
    refine sym_seq ?_
    refine St.rg h [(20, .inl (el (dig ((0 + (pp - y)) % pp)))), (3, .inl (.bool true))] [] [(1, ce ((0 + (pp - y)) % pp))] [eR 2, eS 1] ?_ ?_
    · exact oc (k_ld 2 0 (el (dig ((0 + (pp - y)) % pp))) (c := ce ((0 + (pp - y)) % pp)) (ldE (n := ((0 + (pp - y)) % pp)) 46) rfl rfl) <|
      oc (k_st 1 0 (el (dig ((0 + (pp - y)) % pp))) (c := ce 0) (n := ce ((0 + (pp - y)) % pp)) (stE (n := ((0 + (pp - y)) % pp)) (c := ce 0) 46 (ce_size _)) rfl rfl) <|
      oz (k_mv (.inr rfl) rfl) <|
      ok_nil
    clear h; intro β a w h
    refine sym_then ?_
    refine wp_ret ?_
    exact s_r2 (b := 1) (t0 := 46) (c := ce ((0 + (pp - y)) % pp)) h Tryz.results78 Tryz.underlying46 (fun hb => ⟨rfl, hb⟩)

theorem hexp : ∃ h : Nat, 2 * h + 1 = pp ∧ ∀ k : Nat, k = 7237005577332262213973186563042994240829374041602535252466099000494570602494 → 4 * k = h + 2 :=
  ⟨28948022309329048855892746252171976963317496166410141009864396001978282409974, by unfold pp; omega, fun k hk => by subst hk; omega⟩

theorem root_d {m : Nat} (hm : m < pp) : ∃ (r : Nat) (b : Bool), r < pp ∧ (b = true → r * r % pp = m ∧ r % 2 = 0) ∧ (b = false → r = 0 ∧ ∀ x, x * x % pp ≠ m) ∧
    ∀ w, Calls Tryz.prog 78 #[el (dig m)] w fun e w' => e = .returned (.tuple #[el (dig r), .bool b]) ∧ Below w.heap.size w w' := by
  obtain ⟨k, hk, c⟩ := anyRoot_d hm
  obtain ⟨h, hh, h4⟩ := hexp
  have h4 := h4 k hk.out
  have hy : aRt (m ^ k % pp) m < pp := aRt_lt (mod_pp _)
  have hone : m ^ h % pp = 1 → aRt (m ^ k % pp) m * aRt (m ^ k % pp) m % pp = m := fun h1 => root_of_one hm h4 h1 rfl
  have hzero : m = 0 → aRt (m ^ k % pp) m * aRt (m ^ k % pp) m % pp = m := by
    intro e
    subst e
    have hk0 : 0 < k := by omega
    have e0 : 0 ^ k % pp = 0 := by rw [Nat.zero_pow hk0]; exact Nat.zero_mod _
    rw [e0, aRt_t (by simp)]; simp
  generalize aRt (m ^ k % pp) m = y at *
  by_cases hb : y * y % pp = m
  · rw [decide_eq_true hb] at c
    obtain ⟨s1, s2, s3⟩ := evn_spec hy
    refine ⟨evn y, true, s1, fun _ => ⟨by rw [s3]; exact hb, s2⟩, fun h => (by cases h), fun w => ?_⟩
    by_cases he : y % 2 = 0
    · rw [evn_t he]; exact root_ev hy (decide_eq_true he) c w
    · rw [evn_f he]; exact root_od hy (decide_eq_false he) c w
  · rw [decide_eq_false hb] at c
    refine ⟨0, false, pp_pos, fun h => (by cases h), fun _ => ⟨rfl, fun x hx => hb ?_⟩, root_no c⟩
    by_cases h0 : m = 0
    · exact hzero h0
    · exact hone (one_of_root hh h0 hx)
end Go.Proofs.YtacokkedomjgpaaGreatDoor

namespace Go.Proofs.YtacokkedomjgpaaGreatDoor
open Go.RowKit

theorem ldP {a b : Nat} (t0 : TypeId) (w : World) (q : Nat) (h : w.heap[q]? = some (.cells (ces [a, b]) t0 (0, 0))) : (Instr.loadAt 48 (.pointer (some ⟨q, 0, none⟩))).run Tryz.prog w = .ok (.agg (ces [a, b])) w :=
  ld_row (c := ces [a, b]) Tryz.underlying48 rfl (by rw [ces_size]; kernel_rfl) w q h
theorem stP {a b : Nat} {c : Array Value} (t0 : TypeId) (hc : c.size = 8) (w : World) (q : Nat) (h : w.heap[q]? = some (.cells c t0 (0, 0))) : (Instr.storeAt 48 (.pointer (some ⟨q, 0, none⟩)) (.agg (ces [a, b]))).run Tryz.prog w = .ok () (w.setRow q (ces [a, b])) :=
  st_row (n := ces [a, b]) (by rw [ces_size]; kernel_rfl) (by rw [hc, ces_size]; rfl) (ces_one _) w q h
theorem bxP {a b : Nat} (w : World) : (Instr.box 48 (.agg (ces [a, b]))).run Tryz.prog w = .ok (.pointer (some ⟨w.heap.size, 0, none⟩)) (w.alloc (.cells (ces [a, b]) 48)) := bx_agg w
theorem alP (w : World) : (Instr.alloc 48 true (.tuple #[])).run Tryz.prog w = .ok (.pointer (some ⟨w.heap.size, 0, none⟩)) (w.alloc (.cells (ces [0, 0]) 48)) := by
  simp [Instr.alloc, go_sem]
  rfl
theorem bdP0 (w : World) : (Instr.build 48 #[]).run Tryz.prog w = .ok (.agg (ces [0, 0])) w := by kernel_rfl
theorem bdP {a b : Nat} (w : World) : (Instr.build 48 #[(0, el (dig a)), (1, el (dig b))]).run Tryz.prog w = .ok (.agg (ces [a, b])) w := by kernel_rfl
theorem ldS {a b c d : Nat} (t0 : TypeId) (w : World) (q : Nat) (h : w.heap[q]? = some (.cells (ces [a, b, c, d]) t0 (0, 0))) : (Instr.loadAt 78 (.pointer (some ⟨q, 0, none⟩))).run Tryz.prog w = .ok (.agg (ces [a, b, c, d])) w :=
  ld_row (c := ces [a, b, c, d]) Tryz.underlying78 rfl (by rw [ces_size]; kernel_rfl) w q h
theorem stS {a b c d : Nat} {e : Array Value} (t0 : TypeId) (hc : e.size = 16) (w : World) (q : Nat) (h : w.heap[q]? = some (.cells e t0 (0, 0))) : (Instr.storeAt 78 (.pointer (some ⟨q, 0, none⟩)) (.agg (ces [a, b, c, d]))).run Tryz.prog w = .ok () (w.setRow q (ces [a, b, c, d])) :=
  st_row (n := ces [a, b, c, d]) (by rw [ces_size]; kernel_rfl) (by rw [hc, ces_size]; rfl) (ces_one _) w q h
theorem bxS {a b c d : Nat} (w : World) : (Instr.box 78 (.agg (ces [a, b, c, d]))).run Tryz.prog w = .ok (.pointer (some ⟨w.heap.size, 0, none⟩)) (w.alloc (.cells (ces [a, b, c, d]) 78)) := bx_agg w
theorem alS (w : World) : (Instr.alloc 78 true (.tuple #[])).run Tryz.prog w = .ok (.pointer (some ⟨w.heap.size, 0, none⟩)) (w.alloc (.cells (ces [0, 0, 0, 0]) 78)) := by
  simp [Instr.alloc, go_sem]
  rfl
theorem bdS {a b c d : Nat} (w : World) : (Instr.build 78 #[(0, el (dig a)), (1, el (dig b)), (2, el (dig c)), (3, el (dig d))]).run Tryz.prog w = .ok (.agg (ces [a, b, c, d])) w := by kernel_rfl
theorem bxL {a : Nat} (w : World) : (Instr.box 83 (.agg (ces [a]))).run Tryz.prog w = .ok (.pointer (some ⟨w.heap.size, 0, none⟩)) (w.alloc (.cells (ces [a]) 83)) := bx_agg w
theorem stL {a : Nat} {e : Array Value} (t0 : TypeId) (hc : e.size = 4) (w : World) (q : Nat) (h : w.heap[q]? = some (.cells e t0 (0, 0))) : (Instr.storeAt 83 (.pointer (some ⟨q, 0, none⟩)) (.agg (ces [a]))).run Tryz.prog w = .ok () (w.setRow q (ces [a])) :=
  st_row (n := ces [a]) (by rw [ces_size]; kernel_rfl) (by rw [hc, ces_size]; rfl) (ces_one _) w q h
theorem alL (w : World) : (Instr.alloc 83 true (.tuple #[])).run Tryz.prog w = .ok (.pointer (some ⟨w.heap.size, 0, none⟩)) (w.alloc (.cells (ces [0]) 83)) := by
  simp [Instr.alloc, go_sem]
  rfl
theorem bdL {a : Nat} (w : World) : (Instr.build 83 #[(0, el (dig a))]).run Tryz.prog w = .ok (.agg (ces [a])) w := by kernel_rfl

def inv (n : Nat) : Nat := pmod n pp 255 (pp - 2)
theorem inv_pow_eq {n k : Nat} (hk : k = 57896044618658097711785492504343953926634992332820282019728792003956564819947) : n ^ k % pp = inv n := by
  have e : pp - 2 = k := by rw [hk]; decide +kernel
  have h : k < 2 ^ 255 := by rw [hk]; decide +kernel
  unfold inv
  rw [e, pmod_eq n pp 255 k h]
theorem inv_mul {n : Nat} (hn : n < pp) (h : n ≠ 0) : n * inv n % pp = 1 := by
  obtain ⟨k, hk⟩ : ∃ k : Nat, k = 57896044618658097711785492504343953926634992332820282019728792003956564819947 := ⟨_, rfl⟩
  rw [← inv_pow_eq hk]; exact inv_one hn h hk
theorem over_i {m n : Nat} (hm : m < pp) (hn : n < pp) (w : World) : Calls Tryz.prog 44 #[el (dig m), el (dig n)] w fun e w' => e = .returned (el (dig (m * inv n % pp))) ∧ Below w.heap.size w w' := by
  obtain ⟨k, hk, c⟩ := over_d hm hn
  have := c w
  rwa [inv_pow_eq hk.out] at this
def kl (l : List Nat) (i : Nat) : Nat := l.getD i 0
theorem kl_lt {l : List Nat} (h : l.all (fun n => Nat.blt n 256) = true) (i : Nat) : kl l i < 256 := by
  unfold kl
  by_cases hi : i < l.length
  · have := List.all_eq_true.1 h l[i] (List.getElem_mem hi)
    rw [List.getD_eq_getElem?_getD, List.getElem?_eq_getElem hi]
    exact Nat.le_of_ble_eq_true this
  · rw [List.getD_eq_getElem?_getD, List.getElem?_eq_none (by omega)]
    show 0 < 256; omega
def dN : Nat := 37095705934669439343138083508754565189542113879843219016388785533085940283555
def gX : Nat := 15112221349535400772501151409588531511454012693041857206046113283949847762202
end Go.Proofs.YtacokkedomjgpaaGreatDoor

namespace Go.Proofs.YtacokkedomjgpaaGreatDoor
open Go.RowKit

def ad (m n : Nat) : Nat := (m + n) % pp
def sb (m n : Nat) : Nat := (m + (pp - n)) % pp
def mu (m n : Nat) : Nat := m * n % pp
theorem ad_lt (m n : Nat) : ad m n < pp := mod_pp _
theorem sb_lt (m n : Nat) : sb m n < pp := mod_pp _
theorem mu_lt (m n : Nat) : mu m n < pp := mod_pp _
theorem zero_ltp : 0 < pp := pp_pos
theorem one_ltp : 1 < pp := by decide +kernel
theorem four_ltp : 4 < pp := by decide +kernel
theorem five_ltp : 5 < pp := by decide +kernel
theorem plus_m {m n : Nat} (hm : m < pp) (hn : n < pp) (w : World) : Calls Tryz.prog 77 #[el (dig m), el (dig n)] w fun e w' => e = .returned (el (dig (ad m n))) ∧ Below w.heap.size w w' := plus_d hm hn w
theorem minus_m {m n : Nat} (hm : m < pp) (hn : n < pp) (w : World) : Calls Tryz.prog 39 #[el (dig m), el (dig n)] w fun e w' => e = .returned (el (dig (sb m n))) ∧ Below w.heap.size w w' := minus_d hm hn w
theorem times_m {m n : Nat} (hm : m < pp) (hn : n < pp) (w : World) : Calls Tryz.prog 75 #[el (dig m), el (dig n)] w fun e w' => e = .returned (el (dig (mu m n))) ∧ Below w.heap.size w w' := times_d hm hn w
theorem over_m {m n : Nat} (hm : m < pp) (hn : n < pp) (w : World) : Calls Tryz.prog 44 #[el (dig m), el (dig n)] w fun e w' => e = .returned (el (dig (mu m (inv n)))) ∧ Below w.heap.size w w' := over_i hm hn w
theorem int_m {m : Nat} (h : m < 9223372036854775808) (w : World) : Calls Tryz.prog 43 #[.int .i64 (m : Nat)] w fun e w' => e = .returned (el (dig m)) ∧ Below w.heap.size w w' := int_pos_d h w
theorem dN_lt : dN < pp := by decide +kernel
theorem gX_lt : gX < pp := by decide +kernel
theorem or_b {x u : Operand} {m : Nat} (h : m < 128) (w : World) : (do eqGuard .or 5 x u (.int .u8 (m : Nat)) (.int .u8 (128 : Nat)); binOp .or 5 (.int .u8 (m : Nat)) (.int .u8 (128 : Nat))).run Tryz.prog w = .ok (.int .u8 (m + 128 : Nat)) w := by
  have h1 : ∀ k, k < 128 → bits .or .u8 ((k : Nat) : Int) 128 = ((k + 128 : Nat) : Int) := by decide +kernel
  have h2 := h1 m h
  simp [eqGuard, binOp, go_sem, h2]
theorem and_b {x u : Operand} {m : Nat} (h : m < 256) (w : World) : (do eqGuard .and 5 x u (.int .u8 (m : Nat)) (.int .u8 (128 : Nat)); binOp .and 5 (.int .u8 (m : Nat)) (.int .u8 (128 : Nat))).run Tryz.prog w = .ok (.int .u8 (m / 128 * 128 : Nat)) w := by
  have h1 : ∀ k, k < 256 → bits .and .u8 ((k : Nat) : Int) 128 = ((k / 128 * 128 : Nat) : Int) := by decide +kernel
  have h2 := h1 m h
  simp [eqGuard, binOp, go_sem, h2]
theorem an_b {x u : Operand} {m : Nat} (h : m < 256) (w : World) : (do eqGuard .andNot 5 x u (.int .u8 (m : Nat)) (.int .u8 (128 : Nat)); binOp .andNot 5 (.int .u8 (m : Nat)) (.int .u8 (128 : Nat))).run Tryz.prog w = .ok (.int .u8 (m % 128 : Nat)) w := by
  have h1 : ∀ k, k < 256 → bits .andNot .u8 ((k : Nat) : Int) 128 = ((k % 128 : Nat) : Int) := by decide +kernel
  have h2 := h1 m h
  simp [eqGuard, binOp, go_sem, h2]
theorem ne_b {x u : Operand} {m n : Nat} {b : Bool} (h : decide (¬ m = n) = b) (w : World) : (do eqGuard .neq 5 x u (.int .u8 (m : Nat)) (.int .u8 (n : Nat)); binOp .neq 5 (.int .u8 (m : Nat)) (.int .u8 (n : Nat))).run Tryz.prog w = .ok (.bool b) w := by
  have h1 : (((m : Nat) : Int) != ((n : Nat) : Int)) = b := by rw [← h, Bool.eq_iff_iff]; simp; omega
  simp [eqGuard, binOp, go_sem, h1]
theorem eq_b {x u : Operand} {m n : Nat} {b : Bool} (h : decide (m = n) = b) (w : World) : (do eqGuard .eql 5 x u (.int .u8 (m : Nat)) (.int .u8 (n : Nat)); binOp .eql 5 (.int .u8 (m : Nat)) (.int .u8 (n : Nat))).run Tryz.prog w = .ok (.bool b) w := by
  have h1 : (((m : Nat) : Int) == ((n : Nat) : Int)) = b := by rw [← h, Bool.eq_iff_iff]; simp; omega
  simp [eqGuard, binOp, go_sem, h1]
end Go.Proofs.YtacokkedomjgpaaGreatDoor

namespace Go.Proofs.YtacokkedomjgpaaGreatDoor
open Go.RowKit

set_option maxHeartbeats 4000000 in
theorem cnum_r (W0 : World) : Calls Tryz.prog 76 #[] W0 fun e w' => e = .returned (el (dig dN)) ∧ Below W0.heap.size W0 w' := by
  refine s_in Tryz.func76 Tryz.ntmps76 rfl [] ?_
  intro β a h
  refine sym_seq ?_
  refine St.rg h [(0, .inr (0, pt 0))] [(ce 0, 46)] [] [eN 0] ?_ ?_
  · exact oc (k_al 0 alE rfl rfl) <|
    ok_nil
  clear h; intro β a w h
  refine sym_then ?_
  refine sym_seq ?_
  refine St.rg h [(1, .inl (.agg (ck (kl [163, 120, 89, 19, 202, 77, 235, 117, 171, 216, 65, 65, 77, 10, 112, 0, 152, 232, 121, 119, 121, 64, 199, 140, 115, 254, 111, 43, 238, 108, 3, 82])))), (2, .inl (el (dig dN)))] [] [(0, ce dN)] [nn, nn, eS 0] ?_ ?_
  · exact oc (k_bu #[(0, .int .u8 (163 : Nat)), (1, .int .u8 (120 : Nat)), (2, .int .u8 (89 : Nat)), (3, .int .u8 (19 : Nat)), (4, .int .u8 (202 : Nat)), (5, .int .u8 (77 : Nat)), (6, .int .u8 (235 : Nat)), (7, .int .u8 (117 : Nat)), (8, .int .u8 (171 : Nat)), (9, .int .u8 (216 : Nat)), (10, .int .u8 (65 : Nat)), (11, .int .u8 (65 : Nat)), (12, .int .u8 (77 : Nat)), (13, .int .u8 (10 : Nat)), (14, .int .u8 (112 : Nat)), (15, .int .u8 (0 : Nat)), (16, .int .u8 (152 : Nat)), (17, .int .u8 (232 : Nat)), (18, .int .u8 (121 : Nat)), (19, .int .u8 (119 : Nat)), (20, .int .u8 (121 : Nat)), (21, .int .u8 (64 : Nat)), (22, .int .u8 (199 : Nat)), (23, .int .u8 (140 : Nat)), (24, .int .u8 (115 : Nat)), (25, .int .u8 (254 : Nat)), (26, .int .u8 (111 : Nat)), (27, .int .u8 (43 : Nat)), (28, .int .u8 (238 : Nat)), (29, .int .u8 (108 : Nat)), (30, .int .u8 (3 : Nat)), (31, .int .u8 (82 : Nat))] (.agg (ck (kl [163, 120, 89, 19, 202, 77, 235, 117, 171, 216, 65, 65, 77, 10, 112, 0, 152, 232, 121, 119, 121, 64, 199, 140, 115, 254, 111, 43, 238, 108, 3, 82]))) (fun w => by kernel_rfl) rfl rfl) <|
    oc (k_ca 35 #[.agg (ck (kl [163, 120, 89, 19, 202, 77, 235, 117, 171, 216, 65, 65, 77, 10, 112, 0, 152, 232, 121, 119, 121, 64, 199, 140, 115, 254, 111, 43, 238, 108, 3, 82]))] (el (dig dN)) (fun w => by have := of_k (b := (kl [163, 120, 89, 19, 202, 77, 235, 117, 171, 216, 65, 65, 77, 10, 112, 0, 152, 232, 121, 119, 121, 64, 199, 140, 115, 254, 111, 43, 238, 108, 3, 82])) (kl_lt (by decide)) w; rwa [show ofb (kl [163, 120, 89, 19, 202, 77, 235, 117, 171, 216, 65, 65, 77, 10, 112, 0, 152, 232, 121, 119, 121, 64, 199, 140, 115, 254, 111, 43, 238, 108, 3, 82]) = dN by decide +kernel] at this) rfl rfl) <|
    oc (k_st 0 0 (el (dig dN)) (c := ce 0) (n := ce dN) (stE (n := dN) (c := ce 0) 46 (ce_size _)) rfl rfl) <|
    ok_nil
  clear h; intro β a w h
  refine sym_then ?_
  refine wp_ret ?_
  exact s_rc (b := 0) (t0 := 46) (c := ce dN) h Tryz.results76 Tryz.underlying46 (fun hb => ⟨rfl, hb⟩)

set_option maxHeartbeats 4000000 in
theorem law_r  (W0 : World) : Calls Tryz.prog 47 #[] W0 fun e w' => e = .returned (.agg (ces [dN])) ∧ Below W0.heap.size W0 w' := by
  refine s_in Tryz.func47 Tryz.ntmps47 rfl [] ?_
  intro β a h
  refine sym_seq ?_
  refine St.rg h [(0, .inr (0, pt 0))] [(ces [0], 83)] [] [eN 0] ?_ ?_
  · exact oc (k_al 0 alL rfl rfl) <|
    ok_nil
  clear h; intro β a w h
  refine sym_then ?_
  refine sym_seq ?_
  refine St.rg h [(1, .inl (el (dig dN))), (2, .inl (.agg (ces [dN])))] [] [(0, ces [dN])] [nn, nn, eS 0] ?_ ?_
  · exact oc (k_ca 76 #[] (el (dig dN)) cnum_r rfl rfl) <|
    oc (k_bu #[(0, el (dig dN))] (.agg (ces [dN])) (bdL (a := dN)) rfl rfl) <|
    oc (k_st 0 0 (.agg (ces [dN])) (c := ces [0]) (n := ces [dN]) (stL (a := dN) (e := ces [0]) 83 (by rw [ces_size]; rfl)) rfl rfl) <|
    ok_nil
  clear h; intro β a w h
  refine sym_then ?_
  refine wp_ret ?_
  exact s_rc (b := 0) (t0 := 83) (c := ces [dN]) h Tryz.results47 Tryz.underlying83 (fun hb => ⟨rfl, hb⟩) (by rw [ces_size]; kernel_rfl)

set_option maxHeartbeats 4000000 in
theorem twice_r {x : Nat} (hx : x < pp) (W0 : World) : Calls Tryz.prog 85 #[el (dig x)] W0 fun e w' => e = .returned (el (dig (ad x x))) ∧ Below W0.heap.size W0 w' := by
  refine s_in Tryz.func85 Tryz.ntmps85 rfl [.inl (el (dig x))] ?_
  intro β a h
  refine sym_seq ?_
  refine St.rg h [(1, .inr (0, pt 0)), (2, .inr (1, pt 0))] [(ce x, 46), (ce 0, 46)] [] [eN 0, eN 1] ?_ ?_
  · exact oc (k_bx 0 (el (dig x)) (bxE (n := x)) rfl rfl) <|
    oc (k_al 1 alE rfl rfl) <|
    ok_nil
  clear h; intro β a w h
  refine sym_then ?_
  refine sym_seq ?_
  refine St.rg h [(3, .inl (el (dig x))), (4, .inl (el (dig x))), (5, .inl (el (dig (ad x x))))] [] [(1, ce (ad x x))] [eR 0, eR 0, nn, eS 1] ?_ ?_
  · exact oc (k_ld 0 0 (el (dig x)) (c := ce x) (ldE (n := x) 46) rfl rfl) <|
    oc (k_ld 0 0 (el (dig x)) (c := ce x) (ldE (n := x) 46) rfl rfl) <|
    oc (k_ca 77 #[el (dig x), el (dig x)] (el (dig (ad x x))) (fun w => plus_m hx hx w) rfl rfl) <|
    oc (k_st 1 0 (el (dig (ad x x))) (c := ce 0) (n := ce (ad x x)) (stE (n := (ad x x)) (c := ce 0) 46 (ce_size _)) rfl rfl) <|
    ok_nil
  clear h; intro β a w h
  refine sym_then ?_
  refine wp_ret ?_
  exact s_rc (b := 1) (t0 := 46) (c := ce (ad x x)) h Tryz.results85 Tryz.underlying46 (fun hb => ⟨rfl, hb⟩)

set_option maxHeartbeats 4000000 in
theorem at_r {x y : Nat} (hy : y < pp) (W0 : World) : Calls Tryz.prog 40 #[el (dig x), el (dig y)] W0 fun e w' => e = .returned (.agg (ces [x, sb y 1])) ∧ Below W0.heap.size W0 w' := by
  refine s_in Tryz.func40 Tryz.ntmps40 rfl [.inl (el (dig x)), .inl (el (dig y))] ?_
  intro β a h
  refine sym_seq ?_
  refine St.rg h [(2, .inr (0, pt 0)), (3, .inr (1, pt 0)), (4, .inr (2, pt 0))] [(ce x, 46), (ce y, 46), (ces [0, 0], 48)] [] [eN 0, eN 1, eN 2] ?_ ?_
  · exact oc (k_bx 0 (el (dig x)) (bxE (n := x)) rfl rfl) <|
    oc (k_bx 1 (el (dig y)) (bxE (n := y)) rfl rfl) <|
    oc (k_al 2 alP rfl rfl) <|
    ok_nil
  clear h; intro β a w h
  refine sym_then ?_
  refine sym_seq ?_
  refine St.rg h [(5, .inl (el (dig x))), (6, .inl (el (dig y))), (7, .inl (el (dig 1))), (8, .inl (el (dig (sb y 1)))), (9, .inl (.agg (ces [x, (sb y 1)])))] [] [(2, ces [x, (sb y 1)])] [eR 0, eR 1, nn, nn, nn, eS 2] ?_ ?_
  · exact oc (k_ld 0 0 (el (dig x)) (c := ce x) (ldE (n := x) 46) rfl rfl) <|
    oc (k_ld 1 0 (el (dig y)) (c := ce y) (ldE (n := y) 46) rfl rfl) <|
    oc (k_ca 43 #[.int .i64 (1 : Nat)] (el (dig 1)) (fun w => int_m (m := 1) (by decide) w) rfl rfl) <|
    oc (k_ca 39 #[el (dig y), el (dig 1)] (el (dig (sb y 1))) (fun w => minus_m hy one_ltp w) rfl rfl) <|
    oc (k_bu #[(0, el (dig x)), (1, el (dig (sb y 1)))] (.agg (ces [x, (sb y 1)])) (bdP (a := x) (b := (sb y 1))) rfl rfl) <|
    oc (k_st 2 0 (.agg (ces [x, (sb y 1)])) (c := ces [0, 0]) (n := ces [x, (sb y 1)]) (stP (a := x) (b := (sb y 1)) (c := ces [0, 0]) 48 (by rw [ces_size]; rfl)) rfl rfl) <|
    ok_nil
  clear h; intro β a w h
  refine sym_then ?_
  refine wp_ret ?_
  exact s_rc (b := 2) (t0 := 48) (c := ces [x, (sb y 1)]) h Tryz.results40 Tryz.underlying48 (fun hb => ⟨rfl, hb⟩) (by rw [ces_size]; kernel_rfl)

set_option maxHeartbeats 4000000 in
theorem y_r {x b : Nat} (hb : b < pp) (W0 : World) : Calls Tryz.prog 51 #[.agg (ces [x, b])] W0 fun e w' => e = .returned (el (dig (ad b 1))) ∧ Below W0.heap.size W0 w' := by
  refine s_in Tryz.func51 Tryz.ntmps51 rfl [.inl (.agg (ces [x, b]))] ?_
  intro β a h
  refine sym_seq ?_
  refine St.rg h [(1, .inr (0, pt 0)), (2, .inr (1, pt 0))] [(ces [x, b], 48), (ce 0, 46)] [] [eN 0, eN 1] ?_ ?_
  · exact oc (k_bx 0 (.agg (ces [x, b])) (bxP (a := x) (b := b)) rfl rfl) <|
    oc (k_al 1 alE rfl rfl) <|
    ok_nil
  clear h; intro β a w h
  refine sym_then ?_
  refine sym_seq ?_
  refine St.rg h [(3, .inr (0, pt 4)), (4, .inl (el (dig b))), (5, .inl (el (dig 1))), (6, .inl (el (dig (ad b 1))))] [] [(1, ce (ad b 1))] [nn, eR 0, nn, nn, eS 1] ?_ ?_
  · exact oc (k_fa 0 0 4 rfl rfl) <|
    oc (k_ld 0 4 (el (dig b)) (c := ces [x, b]) (ld_ces (l := [x, b]) (k := 1) (n := b) 48 rfl) rfl rfl) <|
    oc (k_ca 43 #[.int .i64 (1 : Nat)] (el (dig 1)) (fun w => int_m (m := 1) (by decide) w) rfl rfl) <|
    oc (k_ca 77 #[el (dig b), el (dig 1)] (el (dig (ad b 1))) (fun w => plus_m hb one_ltp w) rfl rfl) <|
    oc (k_st 1 0 (el (dig (ad b 1))) (c := ce 0) (n := ce (ad b 1)) (stE (n := (ad b 1)) (c := ce 0) 46 (ce_size _)) rfl rfl) <|
    ok_nil
  clear h; intro β a w h
  refine sym_then ?_
  refine wp_ret ?_
  exact s_rc (b := 1) (t0 := 46) (c := ce (ad b 1)) h Tryz.results51 Tryz.underlying46 (fun hb => ⟨rfl, hb⟩)

set_option maxHeartbeats 4000000 in
theorem shared_r {x b : Nat} (hx : x < pp) (hb : b < pp) (W0 : World) : Calls Tryz.prog 46 #[.agg (ces [x, b])] W0 fun e w' => e = .returned (.agg (ces [x, ad b 1, 1, mu x (ad b 1)])) ∧ Below W0.heap.size W0 w' := by
  refine s_in Tryz.func46 Tryz.ntmps46 rfl [.inl (.agg (ces [x, b]))] ?_
  intro β a h
  refine sym_seq ?_
  refine St.rg h [(1, .inr (0, pt 0)), (2, .inr (1, pt 0))] [(ces [x, b], 48), (ces [0, 0, 0, 0], 78)] [] [eN 0, eN 1] ?_ ?_
  · exact oc (k_bx 0 (.agg (ces [x, b])) (bxP (a := x) (b := b)) rfl rfl) <|
    oc (k_al 1 alS rfl rfl) <|
    ok_nil
  clear h; intro β a w h
  refine sym_then ?_
  refine sym_seq ?_
  refine St.rg h [(4, .inl (.agg (ces [x, b]))), (5, .inl (el (dig (ad b 1)))), (3, .inr (2, pt 0))] [(ce 0, 46)] [(2, ce (ad b 1))] [eR 0, nn, eN 2, eS 2] ?_ ?_
  · exact oc (k_ld 0 0 (.agg (ces [x, b])) (c := ces [x, b]) (ldP (a := x) (b := b) 48) rfl rfl) <|
    oc (k_ca 51 #[.agg (ces [x, b])] (el (dig (ad b 1))) (fun w => y_r hb w) rfl rfl) <|
    oc (k_al 2 alE rfl rfl) <|
    oc (k_st 2 0 (el (dig (ad b 1))) (c := ce 0) (n := ce (ad b 1)) (stE (n := (ad b 1)) (c := ce 0) 46 (ce_size _)) rfl rfl) <|
    ok_nil
  clear h; intro β a w h
  refine sym_then ?_
  refine sym_seq ?_
  refine St.rg h [(6, .inr (0, pt 0)), (7, .inl (el (dig x))), (8, .inl (el (dig (ad b 1)))), (9, .inl (el (dig 1))), (10, .inr (0, pt 0)), (11, .inl (el (dig x))), (12, .inl (el (dig (ad b 1)))), (13, .inl (el (dig (mu x (ad b 1))))), (14, .inl (.agg (ces [x, (ad b 1), 1, (mu x (ad b 1))])))] [] [(1, ces [x, (ad b 1), 1, (mu x (ad b 1))])] [nn, eR 0, eR 2, nn, nn, eR 0, eR 2, nn, nn, eS 1] ?_ ?_
  · exact oc (k_fa 0 0 0 rfl rfl) <|
    oc (k_ld 0 0 (el (dig x)) (c := ces [x, b]) (ld_ces (l := [x, b]) (k := 0) (n := x) 48 rfl) rfl rfl) <|
    oc (k_ld 2 0 (el (dig (ad b 1))) (c := ce (ad b 1)) (ldE (n := (ad b 1)) 46) rfl rfl) <|
    oc (k_ca 43 #[.int .i64 (1 : Nat)] (el (dig 1)) (fun w => int_m (m := 1) (by decide) w) rfl rfl) <|
    oc (k_fa 0 0 0 rfl rfl) <|
    oc (k_ld 0 0 (el (dig x)) (c := ces [x, b]) (ld_ces (l := [x, b]) (k := 0) (n := x) 48 rfl) rfl rfl) <|
    oc (k_ld 2 0 (el (dig (ad b 1))) (c := ce (ad b 1)) (ldE (n := (ad b 1)) 46) rfl rfl) <|
    oc (k_ca 75 #[el (dig x), el (dig (ad b 1))] (el (dig (mu x (ad b 1)))) (fun w => times_m hx (ad_lt _ _) w) rfl rfl) <|
    oc (k_bu #[(0, el (dig x)), (1, el (dig (ad b 1))), (2, el (dig 1)), (3, el (dig (mu x (ad b 1))))] (.agg (ces [x, (ad b 1), 1, (mu x (ad b 1))])) (bdS (a := x) (b := (ad b 1)) (c := 1) (d := (mu x (ad b 1)))) rfl rfl) <|
    oc (k_st 1 0 (.agg (ces [x, (ad b 1), 1, (mu x (ad b 1))])) (c := ces [0, 0, 0, 0]) (n := ces [x, (ad b 1), 1, (mu x (ad b 1))]) (stS (a := x) (b := (ad b 1)) (c := 1) (d := (mu x (ad b 1))) (e := ces [0, 0, 0, 0]) 78 (by rw [ces_size]; rfl)) rfl rfl) <|
    ok_nil
  clear h; intro β a w h
  refine sym_then ?_
  refine wp_ret ?_
  exact s_rc (b := 1) (t0 := 78) (c := ces [x, (ad b 1), 1, (mu x (ad b 1))]) h Tryz.results46 Tryz.underlying78 (fun hb => ⟨rfl, hb⟩) (by rw [ces_size]; kernel_rfl)

set_option maxHeartbeats 4000000 in
theorem point_r {X Y Z T : Nat} (hX : X < pp) (hY : Y < pp) (hZ : Z < pp) (W0 : World) : Calls Tryz.prog 49 #[.agg (ces [X, Y, Z, T])] W0 fun e w' => e = .returned (.agg (ces [mu X (mu 1 (inv Z)), sb (mu Y (mu 1 (inv Z))) 1])) ∧ Below W0.heap.size W0 w' := by
  refine s_in Tryz.func49 Tryz.ntmps49 rfl [.inl (.agg (ces [X, Y, Z, T]))] ?_
  intro β a h
  refine sym_seq ?_
  refine St.rg h [(1, .inr (0, pt 0)), (2, .inr (1, pt 0))] [(ces [X, Y, Z, T], 78), (ces [0, 0], 48)] [] [eN 0, eN 1] ?_ ?_
  · exact oc (k_bx 0 (.agg (ces [X, Y, Z, T])) (bxS (a := X) (b := Y) (c := Z) (d := T)) rfl rfl) <|
    oc (k_al 1 alP rfl rfl) <|
    ok_nil
  clear h; intro β a w h
  refine sym_then ?_
  refine sym_seq ?_
  refine St.rg h [(4, .inl (el (dig 1))), (5, .inr (0, pt 8)), (6, .inl (el (dig Z))), (7, .inl (el (dig (mu 1 (inv Z))))), (3, .inr (2, pt 0))] [(ce 0, 46)] [(2, ce (mu 1 (inv Z)))] [nn, nn, eR 0, nn, eN 2, eS 2] ?_ ?_
  · exact oc (k_ca 43 #[.int .i64 (1 : Nat)] (el (dig 1)) (fun w => int_m (m := 1) (by decide) w) rfl rfl) <|
    oc (k_fa 0 0 8 rfl rfl) <|
    oc (k_ld 0 8 (el (dig Z)) (c := ces [X, Y, Z, T]) (ld_ces (l := [X, Y, Z, T]) (k := 2) (n := Z) 78 rfl) rfl rfl) <|
    oc (k_ca 44 #[el (dig 1), el (dig Z)] (el (dig (mu 1 (inv Z)))) (fun w => over_m one_ltp hZ w) rfl rfl) <|
    oc (k_al 2 alE rfl rfl) <|
    oc (k_st 2 0 (el (dig (mu 1 (inv Z)))) (c := ce 0) (n := ce (mu 1 (inv Z))) (stE (n := (mu 1 (inv Z))) (c := ce 0) 46 (ce_size _)) rfl rfl) <|
    ok_nil
  clear h; intro β a w h
  refine sym_then ?_
  refine sym_seq ?_
  refine St.rg h [(8, .inr (0, pt 0)), (9, .inl (el (dig X))), (10, .inl (el (dig (mu 1 (inv Z))))), (11, .inl (el (dig (mu X (mu 1 (inv Z)))))), (12, .inr (0, pt 4)), (13, .inl (el (dig Y))), (14, .inl (el (dig (mu 1 (inv Z))))), (15, .inl (el (dig (mu Y (mu 1 (inv Z)))))), (16, .inl (.agg (ces [(mu X (mu 1 (inv Z))), (sb (mu Y (mu 1 (inv Z))) 1)])))] [] [(1, ces [(mu X (mu 1 (inv Z))), (sb (mu Y (mu 1 (inv Z))) 1)])] [nn, eR 0, eR 2, nn, nn, eR 0, eR 2, nn, nn, eS 1] ?_ ?_
  · exact oc (k_fa 0 0 0 rfl rfl) <|
    oc (k_ld 0 0 (el (dig X)) (c := ces [X, Y, Z, T]) (ld_ces (l := [X, Y, Z, T]) (k := 0) (n := X) 78 rfl) rfl rfl) <|
    oc (k_ld 2 0 (el (dig (mu 1 (inv Z)))) (c := ce (mu 1 (inv Z))) (ldE (n := (mu 1 (inv Z))) 46) rfl rfl) <|
    oc (k_ca 75 #[el (dig X), el (dig (mu 1 (inv Z)))] (el (dig (mu X (mu 1 (inv Z))))) (fun w => times_m hX (mu_lt _ _) w) rfl rfl) <|
    oc (k_fa 0 0 4 rfl rfl) <|
    oc (k_ld 0 4 (el (dig Y)) (c := ces [X, Y, Z, T]) (ld_ces (l := [X, Y, Z, T]) (k := 1) (n := Y) 78 rfl) rfl rfl) <|
    oc (k_ld 2 0 (el (dig (mu 1 (inv Z)))) (c := ce (mu 1 (inv Z))) (ldE (n := (mu 1 (inv Z))) 46) rfl rfl) <|
    oc (k_ca 75 #[el (dig Y), el (dig (mu 1 (inv Z)))] (el (dig (mu Y (mu 1 (inv Z))))) (fun w => times_m hY (mu_lt _ _) w) rfl rfl) <|
    oc (k_ca 40 #[el (dig (mu X (mu 1 (inv Z)))), el (dig (mu Y (mu 1 (inv Z))))] (.agg (ces [(mu X (mu 1 (inv Z))), (sb (mu Y (mu 1 (inv Z))) 1)])) (fun w => at_r (mu_lt _ _) w) rfl rfl) <|
    oc (k_st 1 0 (.agg (ces [(mu X (mu 1 (inv Z))), (sb (mu Y (mu 1 (inv Z))) 1)])) (c := ces [0, 0]) (n := ces [(mu X (mu 1 (inv Z))), (sb (mu Y (mu 1 (inv Z))) 1)]) (stP (a := (mu X (mu 1 (inv Z)))) (b := (sb (mu Y (mu 1 (inv Z))) 1)) (c := ces [0, 0]) 48 (by rw [ces_size]; rfl)) rfl rfl) <|
    ok_nil
  clear h; intro β a w h
  refine sym_then ?_
  refine wp_ret ?_
  exact s_rc (b := 1) (t0 := 48) (c := ces [(mu X (mu 1 (inv Z))), (sb (mu Y (mu 1 (inv Z))) 1)]) h Tryz.results49 Tryz.underlying48 (fun hb => ⟨rfl, hb⟩) (by rw [ces_size]; kernel_rfl)

end Go.Proofs.YtacokkedomjgpaaGreatDoor

namespace Go.Proofs.YtacokkedomjgpaaGreatDoor
open Go.RowKit
set_option maxHeartbeats 4000000 in
theorem sum_r {d x1 y1 z1 t1 x2 y2 z2 t2 : Nat} (hd : d < pp) (hx1 : x1 < pp) (hy1 : y1 < pp) (hz1 : z1 < pp) (ht1 : t1 < pp) (hx2 : x2 < pp) (hy2 : y2 < pp) (hz2 : z2 < pp) (ht2 : t2 < pp) (W0 : World) : Calls Tryz.prog 48 #[.agg (ces [d]), .agg (ces [x1, y1, z1, t1]), .agg (ces [x2, y2, z2, t2])] W0 fun e w' => e = .returned (.agg (ces [mu (sb (mu (ad y1 x1) (ad y2 x2)) (mu (sb y1 x1) (sb y2 x2))) (sb (ad (mu z1 z2) (mu z1 z2)) (ad (mu (mu t1 t2) d) (mu (mu t1 t2) d))), mu (ad (mu (ad y1 x1) (ad y2 x2)) (mu (sb y1 x1) (sb y2 x2))) (ad (ad (mu z1 z2) (mu z1 z2)) (ad (mu (mu t1 t2) d) (mu (mu t1 t2) d))), mu (ad (ad (mu z1 z2) (mu z1 z2)) (ad (mu (mu t1 t2) d) (mu (mu t1 t2) d))) (sb (ad (mu z1 z2) (mu z1 z2)) (ad (mu (mu t1 t2) d) (mu (mu t1 t2) d))), mu (sb (mu (ad y1 x1) (ad y2 x2)) (mu (sb y1 x1) (sb y2 x2))) (ad (mu (ad y1 x1) (ad y2 x2)) (mu (sb y1 x1) (sb y2 x2)))])) ∧ Below W0.heap.size W0 w' := by
  refine s_in Tryz.func48 Tryz.ntmps48 rfl [.inl (.agg (ces [d])), .inl (.agg (ces [x1, y1, z1, t1])), .inl (.agg (ces [x2, y2, z2, t2]))] ?_
  intro β a h
  refine sym_seq ?_
  refine St.rg h [(3, .inr (0, pt 0)), (4, .inr (1, pt 0)), (5, .inr (2, pt 0)), (6, .inr (3, pt 0))] [(ces [d], 83), (ces [x1, y1, z1, t1], 78), (ces [x2, y2, z2, t2], 78), (ces [0, 0, 0, 0], 78)] [] [eN 0, eN 1, eN 2, eN 3] ?_ ?_
  · exact oc (k_bx 0 (.agg (ces [d])) (bxL (a := d)) rfl rfl) <|
    oc (k_bx 1 (.agg (ces [x1, y1, z1, t1])) (bxS (a := x1) (b := y1) (c := z1) (d := t1)) rfl rfl) <|
    oc (k_bx 2 (.agg (ces [x2, y2, z2, t2])) (bxS (a := x2) (b := y2) (c := z2) (d := t2)) rfl rfl) <|
    oc (k_al 3 alS rfl rfl) <|
    ok_nil
  clear h; intro β a w h
  refine sym_then ?_
  refine sym_seq ?_
  refine St.rg h [(15, .inr (1, pt 4)), (16, .inl (el (dig y1))), (17, .inr (1, pt 0)), (18, .inl (el (dig x1))), (19, .inl (el (dig (sb y1 x1)))), (20, .inr (2, pt 4)), (21, .inl (el (dig y2))), (22, .inr (2, pt 0)), (23, .inl (el (dig x2))), (24, .inl (el (dig (sb y2 x2)))), (25, .inl (el (dig (mu (sb y1 x1) (sb y2 x2))))), (7, .inr (4, pt 0))] [(ce 0, 46)] [(4, ce (mu (sb y1 x1) (sb y2 x2)))] [nn, eR 1, nn, eR 1, nn, nn, eR 2, nn, eR 2, nn, nn, eN 4, eS 4] ?_ ?_
  · exact oc (k_fa 1 0 4 rfl rfl) <|
    oc (k_ld 1 4 (el (dig y1)) (c := ces [x1, y1, z1, t1]) (ld_ces (l := [x1, y1, z1, t1]) (k := 1) (n := y1) 78 rfl) rfl rfl) <|
    oc (k_fa 1 0 0 rfl rfl) <|
    oc (k_ld 1 0 (el (dig x1)) (c := ces [x1, y1, z1, t1]) (ld_ces (l := [x1, y1, z1, t1]) (k := 0) (n := x1) 78 rfl) rfl rfl) <|
    oc (k_ca 39 #[el (dig y1), el (dig x1)] (el (dig (sb y1 x1))) (fun w => minus_m hy1 hx1 w) rfl rfl) <|
    oc (k_fa 2 0 4 rfl rfl) <|
    oc (k_ld 2 4 (el (dig y2)) (c := ces [x2, y2, z2, t2]) (ld_ces (l := [x2, y2, z2, t2]) (k := 1) (n := y2) 78 rfl) rfl rfl) <|
    oc (k_fa 2 0 0 rfl rfl) <|
    oc (k_ld 2 0 (el (dig x2)) (c := ces [x2, y2, z2, t2]) (ld_ces (l := [x2, y2, z2, t2]) (k := 0) (n := x2) 78 rfl) rfl rfl) <|
    oc (k_ca 39 #[el (dig y2), el (dig x2)] (el (dig (sb y2 x2))) (fun w => minus_m hy2 hx2 w) rfl rfl) <|
    oc (k_ca 75 #[el (dig (sb y1 x1)), el (dig (sb y2 x2))] (el (dig (mu (sb y1 x1) (sb y2 x2)))) (fun w => times_m (sb_lt _ _) (sb_lt _ _) w) rfl rfl) <|
    oc (k_al 4 alE rfl rfl) <|
    oc (k_st 4 0 (el (dig (mu (sb y1 x1) (sb y2 x2)))) (c := ce 0) (n := ce (mu (sb y1 x1) (sb y2 x2))) (stE (n := (mu (sb y1 x1) (sb y2 x2))) (c := ce 0) 46 (ce_size _)) rfl rfl) <|
    ok_nil
  clear h; intro β a w h
  refine sym_then ?_
  refine sym_seq ?_
  refine St.rg h [(26, .inr (1, pt 4)), (27, .inl (el (dig y1))), (28, .inr (1, pt 0)), (29, .inl (el (dig x1))), (30, .inl (el (dig (ad y1 x1)))), (31, .inr (2, pt 4)), (32, .inl (el (dig y2))), (33, .inr (2, pt 0)), (34, .inl (el (dig x2))), (35, .inl (el (dig (ad y2 x2)))), (36, .inl (el (dig (mu (ad y1 x1) (ad y2 x2))))), (8, .inr (5, pt 0))] [(ce 0, 46)] [(5, ce (mu (ad y1 x1) (ad y2 x2)))] [nn, eR 1, nn, eR 1, nn, nn, eR 2, nn, eR 2, nn, nn, eN 5, eS 5] ?_ ?_
  · exact oc (k_fa 1 0 4 rfl rfl) <|
    oc (k_ld 1 4 (el (dig y1)) (c := ces [x1, y1, z1, t1]) (ld_ces (l := [x1, y1, z1, t1]) (k := 1) (n := y1) 78 rfl) rfl rfl) <|
    oc (k_fa 1 0 0 rfl rfl) <|
    oc (k_ld 1 0 (el (dig x1)) (c := ces [x1, y1, z1, t1]) (ld_ces (l := [x1, y1, z1, t1]) (k := 0) (n := x1) 78 rfl) rfl rfl) <|
    oc (k_ca 77 #[el (dig y1), el (dig x1)] (el (dig (ad y1 x1))) (fun w => plus_m hy1 hx1 w) rfl rfl) <|
    oc (k_fa 2 0 4 rfl rfl) <|
    oc (k_ld 2 4 (el (dig y2)) (c := ces [x2, y2, z2, t2]) (ld_ces (l := [x2, y2, z2, t2]) (k := 1) (n := y2) 78 rfl) rfl rfl) <|
    oc (k_fa 2 0 0 rfl rfl) <|
    oc (k_ld 2 0 (el (dig x2)) (c := ces [x2, y2, z2, t2]) (ld_ces (l := [x2, y2, z2, t2]) (k := 0) (n := x2) 78 rfl) rfl rfl) <|
    oc (k_ca 77 #[el (dig y2), el (dig x2)] (el (dig (ad y2 x2))) (fun w => plus_m hy2 hx2 w) rfl rfl) <|
    oc (k_ca 75 #[el (dig (ad y1 x1)), el (dig (ad y2 x2))] (el (dig (mu (ad y1 x1) (ad y2 x2)))) (fun w => times_m (ad_lt _ _) (ad_lt _ _) w) rfl rfl) <|
    oc (k_al 5 alE rfl rfl) <|
    oc (k_st 5 0 (el (dig (mu (ad y1 x1) (ad y2 x2)))) (c := ce 0) (n := ce (mu (ad y1 x1) (ad y2 x2))) (stE (n := (mu (ad y1 x1) (ad y2 x2))) (c := ce 0) 46 (ce_size _)) rfl rfl) <|
    ok_nil
  clear h; intro β a w h
  refine sym_then ?_
  refine sym_seq ?_
  refine St.rg h [(37, .inr (1, pt 8)), (38, .inl (el (dig z1))), (39, .inr (2, pt 8)), (40, .inl (el (dig z2))), (41, .inl (el (dig (mu z1 z2)))), (42, .inl (el (dig (ad (mu z1 z2) (mu z1 z2))))), (9, .inr (6, pt 0))] [(ce 0, 46)] [(6, ce (ad (mu z1 z2) (mu z1 z2)))] [nn, eR 1, nn, eR 2, nn, nn, eN 6, eS 6] ?_ ?_
  · exact oc (k_fa 1 0 8 rfl rfl) <|
    oc (k_ld 1 8 (el (dig z1)) (c := ces [x1, y1, z1, t1]) (ld_ces (l := [x1, y1, z1, t1]) (k := 2) (n := z1) 78 rfl) rfl rfl) <|
    oc (k_fa 2 0 8 rfl rfl) <|
    oc (k_ld 2 8 (el (dig z2)) (c := ces [x2, y2, z2, t2]) (ld_ces (l := [x2, y2, z2, t2]) (k := 2) (n := z2) 78 rfl) rfl rfl) <|
    oc (k_ca 75 #[el (dig z1), el (dig z2)] (el (dig (mu z1 z2))) (fun w => times_m hz1 hz2 w) rfl rfl) <|
    oc (k_ca 85 #[el (dig (mu z1 z2))] (el (dig (ad (mu z1 z2) (mu z1 z2)))) (fun w => twice_r (mu_lt _ _) w) rfl rfl) <|
    oc (k_al 6 alE rfl rfl) <|
    oc (k_st 6 0 (el (dig (ad (mu z1 z2) (mu z1 z2)))) (c := ce 0) (n := ce (ad (mu z1 z2) (mu z1 z2))) (stE (n := (ad (mu z1 z2) (mu z1 z2))) (c := ce 0) 46 (ce_size _)) rfl rfl) <|
    ok_nil
  clear h; intro β a w h
  refine sym_then ?_
  refine sym_seq ?_
  refine St.rg h [(43, .inr (1, pt 12)), (44, .inl (el (dig t1))), (45, .inr (2, pt 12)), (46, .inl (el (dig t2))), (47, .inl (el (dig (mu t1 t2)))), (48, .inr (0, pt 0)), (49, .inl (el (dig d))), (50, .inl (el (dig (mu (mu t1 t2) d)))), (51, .inl (el (dig (ad (mu (mu t1 t2) d) (mu (mu t1 t2) d))))), (10, .inr (7, pt 0))] [(ce 0, 46)] [(7, ce (ad (mu (mu t1 t2) d) (mu (mu t1 t2) d)))] [nn, eR 1, nn, eR 2, nn, nn, eR 0, nn, nn, eN 7, eS 7] ?_ ?_
  · exact oc (k_fa 1 0 12 rfl rfl) <|
    oc (k_ld 1 12 (el (dig t1)) (c := ces [x1, y1, z1, t1]) (ld_ces (l := [x1, y1, z1, t1]) (k := 3) (n := t1) 78 rfl) rfl rfl) <|
    oc (k_fa 2 0 12 rfl rfl) <|
    oc (k_ld 2 12 (el (dig t2)) (c := ces [x2, y2, z2, t2]) (ld_ces (l := [x2, y2, z2, t2]) (k := 3) (n := t2) 78 rfl) rfl rfl) <|
    oc (k_ca 75 #[el (dig t1), el (dig t2)] (el (dig (mu t1 t2))) (fun w => times_m ht1 ht2 w) rfl rfl) <|
    oc (k_fa 0 0 0 rfl rfl) <|
    oc (k_ld 0 0 (el (dig d)) (c := ces [d]) (ld_ces (l := [d]) (k := 0) (n := d) 83 rfl) rfl rfl) <|
    oc (k_ca 75 #[el (dig (mu t1 t2)), el (dig d)] (el (dig (mu (mu t1 t2) d))) (fun w => times_m (mu_lt _ _) hd w) rfl rfl) <|
    oc (k_ca 85 #[el (dig (mu (mu t1 t2) d))] (el (dig (ad (mu (mu t1 t2) d) (mu (mu t1 t2) d)))) (fun w => twice_r (mu_lt _ _) w) rfl rfl) <|
    oc (k_al 7 alE rfl rfl) <|
    oc (k_st 7 0 (el (dig (ad (mu (mu t1 t2) d) (mu (mu t1 t2) d)))) (c := ce 0) (n := ce (ad (mu (mu t1 t2) d) (mu (mu t1 t2) d))) (stE (n := (ad (mu (mu t1 t2) d) (mu (mu t1 t2) d))) (c := ce 0) 46 (ce_size _)) rfl rfl) <|
    ok_nil
  clear h; intro β a w h
  refine sym_then ?_
  refine sym_seq ?_
  refine St.rg h [(52, .inl (el (dig (mu (ad y1 x1) (ad y2 x2))))), (53, .inl (el (dig (mu (sb y1 x1) (sb y2 x2))))), (54, .inl (el (dig (sb (mu (ad y1 x1) (ad y2 x2)) (mu (sb y1 x1) (sb y2 x2)))))), (55, .inl (el (dig (mu (ad y1 x1) (ad y2 x2))))), (56, .inl (el (dig (mu (sb y1 x1) (sb y2 x2))))), (57, .inl (el (dig (ad (mu (ad y1 x1) (ad y2 x2)) (mu (sb y1 x1) (sb y2 x2)))))), (11, .inr (8, pt 0)), (12, .inr (9, pt 0))] [(ce 0, 46), (ce 0, 46)] [(8, ce (sb (mu (ad y1 x1) (ad y2 x2)) (mu (sb y1 x1) (sb y2 x2)))), (9, ce (ad (mu (ad y1 x1) (ad y2 x2)) (mu (sb y1 x1) (sb y2 x2))))] [eR 5, eR 4, nn, eR 5, eR 4, nn, eN 8, eN 9, eS 8, eS 9] ?_ ?_
  · exact oc (k_ld 5 0 (el (dig (mu (ad y1 x1) (ad y2 x2)))) (c := ce (mu (ad y1 x1) (ad y2 x2))) (ldE (n := (mu (ad y1 x1) (ad y2 x2))) 46) rfl rfl) <|
    oc (k_ld 4 0 (el (dig (mu (sb y1 x1) (sb y2 x2)))) (c := ce (mu (sb y1 x1) (sb y2 x2))) (ldE (n := (mu (sb y1 x1) (sb y2 x2))) 46) rfl rfl) <|
    oc (k_ca 39 #[el (dig (mu (ad y1 x1) (ad y2 x2))), el (dig (mu (sb y1 x1) (sb y2 x2)))] (el (dig (sb (mu (ad y1 x1) (ad y2 x2)) (mu (sb y1 x1) (sb y2 x2))))) (fun w => minus_m (mu_lt _ _) (mu_lt _ _) w) rfl rfl) <|
    oc (k_ld 5 0 (el (dig (mu (ad y1 x1) (ad y2 x2)))) (c := ce (mu (ad y1 x1) (ad y2 x2))) (ldE (n := (mu (ad y1 x1) (ad y2 x2))) 46) rfl rfl) <|
    oc (k_ld 4 0 (el (dig (mu (sb y1 x1) (sb y2 x2)))) (c := ce (mu (sb y1 x1) (sb y2 x2))) (ldE (n := (mu (sb y1 x1) (sb y2 x2))) 46) rfl rfl) <|
    oc (k_ca 77 #[el (dig (mu (ad y1 x1) (ad y2 x2))), el (dig (mu (sb y1 x1) (sb y2 x2)))] (el (dig (ad (mu (ad y1 x1) (ad y2 x2)) (mu (sb y1 x1) (sb y2 x2))))) (fun w => plus_m (mu_lt _ _) (mu_lt _ _) w) rfl rfl) <|
    oc (k_al 8 alE rfl rfl) <|
    oc (k_al 9 alE rfl rfl) <|
    oc (k_st 8 0 (el (dig (sb (mu (ad y1 x1) (ad y2 x2)) (mu (sb y1 x1) (sb y2 x2))))) (c := ce 0) (n := ce (sb (mu (ad y1 x1) (ad y2 x2)) (mu (sb y1 x1) (sb y2 x2)))) (stE (n := (sb (mu (ad y1 x1) (ad y2 x2)) (mu (sb y1 x1) (sb y2 x2)))) (c := ce 0) 46 (ce_size _)) rfl rfl) <|
    oc (k_st 9 0 (el (dig (ad (mu (ad y1 x1) (ad y2 x2)) (mu (sb y1 x1) (sb y2 x2))))) (c := ce 0) (n := ce (ad (mu (ad y1 x1) (ad y2 x2)) (mu (sb y1 x1) (sb y2 x2)))) (stE (n := (ad (mu (ad y1 x1) (ad y2 x2)) (mu (sb y1 x1) (sb y2 x2)))) (c := ce 0) 46 (ce_size _)) rfl rfl) <|
    ok_nil
  clear h; intro β a w h
  refine sym_then ?_
  refine sym_seq ?_
  refine St.rg h [(58, .inl (el (dig (ad (mu z1 z2) (mu z1 z2))))), (59, .inl (el (dig (ad (mu (mu t1 t2) d) (mu (mu t1 t2) d))))), (60, .inl (el (dig (ad (ad (mu z1 z2) (mu z1 z2)) (ad (mu (mu t1 t2) d) (mu (mu t1 t2) d)))))), (61, .inl (el (dig (ad (mu z1 z2) (mu z1 z2))))), (62, .inl (el (dig (ad (mu (mu t1 t2) d) (mu (mu t1 t2) d))))), (63, .inl (el (dig (sb (ad (mu z1 z2) (mu z1 z2)) (ad (mu (mu t1 t2) d) (mu (mu t1 t2) d)))))), (13, .inr (10, pt 0)), (14, .inr (11, pt 0))] [(ce 0, 46), (ce 0, 46)] [(10, ce (ad (ad (mu z1 z2) (mu z1 z2)) (ad (mu (mu t1 t2) d) (mu (mu t1 t2) d)))), (11, ce (sb (ad (mu z1 z2) (mu z1 z2)) (ad (mu (mu t1 t2) d) (mu (mu t1 t2) d))))] [eR 6, eR 7, nn, eR 6, eR 7, nn, eN 10, eN 11, eS 10, eS 11] ?_ ?_
  · exact oc (k_ld 6 0 (el (dig (ad (mu z1 z2) (mu z1 z2)))) (c := ce (ad (mu z1 z2) (mu z1 z2))) (ldE (n := (ad (mu z1 z2) (mu z1 z2))) 46) rfl rfl) <|
    oc (k_ld 7 0 (el (dig (ad (mu (mu t1 t2) d) (mu (mu t1 t2) d)))) (c := ce (ad (mu (mu t1 t2) d) (mu (mu t1 t2) d))) (ldE (n := (ad (mu (mu t1 t2) d) (mu (mu t1 t2) d))) 46) rfl rfl) <|
    oc (k_ca 77 #[el (dig (ad (mu z1 z2) (mu z1 z2))), el (dig (ad (mu (mu t1 t2) d) (mu (mu t1 t2) d)))] (el (dig (ad (ad (mu z1 z2) (mu z1 z2)) (ad (mu (mu t1 t2) d) (mu (mu t1 t2) d))))) (fun w => plus_m (ad_lt _ _) (ad_lt _ _) w) rfl rfl) <|
    oc (k_ld 6 0 (el (dig (ad (mu z1 z2) (mu z1 z2)))) (c := ce (ad (mu z1 z2) (mu z1 z2))) (ldE (n := (ad (mu z1 z2) (mu z1 z2))) 46) rfl rfl) <|
    oc (k_ld 7 0 (el (dig (ad (mu (mu t1 t2) d) (mu (mu t1 t2) d)))) (c := ce (ad (mu (mu t1 t2) d) (mu (mu t1 t2) d))) (ldE (n := (ad (mu (mu t1 t2) d) (mu (mu t1 t2) d))) 46) rfl rfl) <|
    oc (k_ca 39 #[el (dig (ad (mu z1 z2) (mu z1 z2))), el (dig (ad (mu (mu t1 t2) d) (mu (mu t1 t2) d)))] (el (dig (sb (ad (mu z1 z2) (mu z1 z2)) (ad (mu (mu t1 t2) d) (mu (mu t1 t2) d))))) (fun w => minus_m (ad_lt _ _) (ad_lt _ _) w) rfl rfl) <|
    oc (k_al 10 alE rfl rfl) <|
    oc (k_al 11 alE rfl rfl) <|
    oc (k_st 10 0 (el (dig (ad (ad (mu z1 z2) (mu z1 z2)) (ad (mu (mu t1 t2) d) (mu (mu t1 t2) d))))) (c := ce 0) (n := ce (ad (ad (mu z1 z2) (mu z1 z2)) (ad (mu (mu t1 t2) d) (mu (mu t1 t2) d)))) (stE (n := (ad (ad (mu z1 z2) (mu z1 z2)) (ad (mu (mu t1 t2) d) (mu (mu t1 t2) d)))) (c := ce 0) 46 (ce_size _)) rfl rfl) <|
    oc (k_st 11 0 (el (dig (sb (ad (mu z1 z2) (mu z1 z2)) (ad (mu (mu t1 t2) d) (mu (mu t1 t2) d))))) (c := ce 0) (n := ce (sb (ad (mu z1 z2) (mu z1 z2)) (ad (mu (mu t1 t2) d) (mu (mu t1 t2) d)))) (stE (n := (sb (ad (mu z1 z2) (mu z1 z2)) (ad (mu (mu t1 t2) d) (mu (mu t1 t2) d)))) (c := ce 0) 46 (ce_size _)) rfl rfl) <|
    ok_nil
  clear h; intro β a w h
  refine sym_then ?_
  refine sym_seq ?_
  refine St.rg h [(64, .inl (el (dig (sb (mu (ad y1 x1) (ad y2 x2)) (mu (sb y1 x1) (sb y2 x2)))))), (65, .inl (el (dig (sb (ad (mu z1 z2) (mu z1 z2)) (ad (mu (mu t1 t2) d) (mu (mu t1 t2) d)))))), (66, .inl (el (dig (mu (sb (mu (ad y1 x1) (ad y2 x2)) (mu (sb y1 x1) (sb y2 x2))) (sb (ad (mu z1 z2) (mu z1 z2)) (ad (mu (mu t1 t2) d) (mu (mu t1 t2) d))))))), (67, .inl (el (dig (ad (mu (ad y1 x1) (ad y2 x2)) (mu (sb y1 x1) (sb y2 x2)))))), (68, .inl (el (dig (ad (ad (mu z1 z2) (mu z1 z2)) (ad (mu (mu t1 t2) d) (mu (mu t1 t2) d)))))), (69, .inl (el (dig (mu (ad (mu (ad y1 x1) (ad y2 x2)) (mu (sb y1 x1) (sb y2 x2))) (ad (ad (mu z1 z2) (mu z1 z2)) (ad (mu (mu t1 t2) d) (mu (mu t1 t2) d))))))), (70, .inl (el (dig (ad (ad (mu z1 z2) (mu z1 z2)) (ad (mu (mu t1 t2) d) (mu (mu t1 t2) d)))))), (71, .inl (el (dig (sb (ad (mu z1 z2) (mu z1 z2)) (ad (mu (mu t1 t2) d) (mu (mu t1 t2) d)))))), (72, .inl (el (dig (mu (ad (ad (mu z1 z2) (mu z1 z2)) (ad (mu (mu t1 t2) d) (mu (mu t1 t2) d))) (sb (ad (mu z1 z2) (mu z1 z2)) (ad (mu (mu t1 t2) d) (mu (mu t1 t2) d))))))), (73, .inl (el (dig (sb (mu (ad y1 x1) (ad y2 x2)) (mu (sb y1 x1) (sb y2 x2)))))), (74, .inl (el (dig (ad (mu (ad y1 x1) (ad y2 x2)) (mu (sb y1 x1) (sb y2 x2)))))), (75, .inl (el (dig (mu (sb (mu (ad y1 x1) (ad y2 x2)) (mu (sb y1 x1) (sb y2 x2))) (ad (mu (ad y1 x1) (ad y2 x2)) (mu (sb y1 x1) (sb y2 x2))))))), (76, .inl (.agg (ces [(mu (sb (mu (ad y1 x1) (ad y2 x2)) (mu (sb y1 x1) (sb y2 x2))) (sb (ad (mu z1 z2) (mu z1 z2)) (ad (mu (mu t1 t2) d) (mu (mu t1 t2) d)))), (mu (ad (mu (ad y1 x1) (ad y2 x2)) (mu (sb y1 x1) (sb y2 x2))) (ad (ad (mu z1 z2) (mu z1 z2)) (ad (mu (mu t1 t2) d) (mu (mu t1 t2) d)))), (mu (ad (ad (mu z1 z2) (mu z1 z2)) (ad (mu (mu t1 t2) d) (mu (mu t1 t2) d))) (sb (ad (mu z1 z2) (mu z1 z2)) (ad (mu (mu t1 t2) d) (mu (mu t1 t2) d)))), (mu (sb (mu (ad y1 x1) (ad y2 x2)) (mu (sb y1 x1) (sb y2 x2))) (ad (mu (ad y1 x1) (ad y2 x2)) (mu (sb y1 x1) (sb y2 x2))))])))] [] [(3, ces [(mu (sb (mu (ad y1 x1) (ad y2 x2)) (mu (sb y1 x1) (sb y2 x2))) (sb (ad (mu z1 z2) (mu z1 z2)) (ad (mu (mu t1 t2) d) (mu (mu t1 t2) d)))), (mu (ad (mu (ad y1 x1) (ad y2 x2)) (mu (sb y1 x1) (sb y2 x2))) (ad (ad (mu z1 z2) (mu z1 z2)) (ad (mu (mu t1 t2) d) (mu (mu t1 t2) d)))), (mu (ad (ad (mu z1 z2) (mu z1 z2)) (ad (mu (mu t1 t2) d) (mu (mu t1 t2) d))) (sb (ad (mu z1 z2) (mu z1 z2)) (ad (mu (mu t1 t2) d) (mu (mu t1 t2) d)))), (mu (sb (mu (ad y1 x1) (ad y2 x2)) (mu (sb y1 x1) (sb y2 x2))) (ad (mu (ad y1 x1) (ad y2 x2)) (mu (sb y1 x1) (sb y2 x2))))])] [eR 8, eR 11, nn, eR 9, eR 10, nn, eR 10, eR 11, nn, eR 8, eR 9, nn, nn, eS 3] ?_ ?_
  · exact oc (k_ld 8 0 (el (dig (sb (mu (ad y1 x1) (ad y2 x2)) (mu (sb y1 x1) (sb y2 x2))))) (c := ce (sb (mu (ad y1 x1) (ad y2 x2)) (mu (sb y1 x1) (sb y2 x2)))) (ldE (n := (sb (mu (ad y1 x1) (ad y2 x2)) (mu (sb y1 x1) (sb y2 x2)))) 46) rfl rfl) <|
    oc (k_ld 11 0 (el (dig (sb (ad (mu z1 z2) (mu z1 z2)) (ad (mu (mu t1 t2) d) (mu (mu t1 t2) d))))) (c := ce (sb (ad (mu z1 z2) (mu z1 z2)) (ad (mu (mu t1 t2) d) (mu (mu t1 t2) d)))) (ldE (n := (sb (ad (mu z1 z2) (mu z1 z2)) (ad (mu (mu t1 t2) d) (mu (mu t1 t2) d)))) 46) rfl rfl) <|
    oc (k_ca 75 #[el (dig (sb (mu (ad y1 x1) (ad y2 x2)) (mu (sb y1 x1) (sb y2 x2)))), el (dig (sb (ad (mu z1 z2) (mu z1 z2)) (ad (mu (mu t1 t2) d) (mu (mu t1 t2) d))))] (el (dig (mu (sb (mu (ad y1 x1) (ad y2 x2)) (mu (sb y1 x1) (sb y2 x2))) (sb (ad (mu z1 z2) (mu z1 z2)) (ad (mu (mu t1 t2) d) (mu (mu t1 t2) d)))))) (fun w => times_m (sb_lt _ _) (sb_lt _ _) w) rfl rfl) <|
    oc (k_ld 9 0 (el (dig (ad (mu (ad y1 x1) (ad y2 x2)) (mu (sb y1 x1) (sb y2 x2))))) (c := ce (ad (mu (ad y1 x1) (ad y2 x2)) (mu (sb y1 x1) (sb y2 x2)))) (ldE (n := (ad (mu (ad y1 x1) (ad y2 x2)) (mu (sb y1 x1) (sb y2 x2)))) 46) rfl rfl) <|
    oc (k_ld 10 0 (el (dig (ad (ad (mu z1 z2) (mu z1 z2)) (ad (mu (mu t1 t2) d) (mu (mu t1 t2) d))))) (c := ce (ad (ad (mu z1 z2) (mu z1 z2)) (ad (mu (mu t1 t2) d) (mu (mu t1 t2) d)))) (ldE (n := (ad (ad (mu z1 z2) (mu z1 z2)) (ad (mu (mu t1 t2) d) (mu (mu t1 t2) d)))) 46) rfl rfl) <|
    oc (k_ca 75 #[el (dig (ad (mu (ad y1 x1) (ad y2 x2)) (mu (sb y1 x1) (sb y2 x2)))), el (dig (ad (ad (mu z1 z2) (mu z1 z2)) (ad (mu (mu t1 t2) d) (mu (mu t1 t2) d))))] (el (dig (mu (ad (mu (ad y1 x1) (ad y2 x2)) (mu (sb y1 x1) (sb y2 x2))) (ad (ad (mu z1 z2) (mu z1 z2)) (ad (mu (mu t1 t2) d) (mu (mu t1 t2) d)))))) (fun w => times_m (ad_lt _ _) (ad_lt _ _) w) rfl rfl) <|
    oc (k_ld 10 0 (el (dig (ad (ad (mu z1 z2) (mu z1 z2)) (ad (mu (mu t1 t2) d) (mu (mu t1 t2) d))))) (c := ce (ad (ad (mu z1 z2) (mu z1 z2)) (ad (mu (mu t1 t2) d) (mu (mu t1 t2) d)))) (ldE (n := (ad (ad (mu z1 z2) (mu z1 z2)) (ad (mu (mu t1 t2) d) (mu (mu t1 t2) d)))) 46) rfl rfl) <|
    oc (k_ld 11 0 (el (dig (sb (ad (mu z1 z2) (mu z1 z2)) (ad (mu (mu t1 t2) d) (mu (mu t1 t2) d))))) (c := ce (sb (ad (mu z1 z2) (mu z1 z2)) (ad (mu (mu t1 t2) d) (mu (mu t1 t2) d)))) (ldE (n := (sb (ad (mu z1 z2) (mu z1 z2)) (ad (mu (mu t1 t2) d) (mu (mu t1 t2) d)))) 46) rfl rfl) <|
    oc (k_ca 75 #[el (dig (ad (ad (mu z1 z2) (mu z1 z2)) (ad (mu (mu t1 t2) d) (mu (mu t1 t2) d)))), el (dig (sb (ad (mu z1 z2) (mu z1 z2)) (ad (mu (mu t1 t2) d) (mu (mu t1 t2) d))))] (el (dig (mu (ad (ad (mu z1 z2) (mu z1 z2)) (ad (mu (mu t1 t2) d) (mu (mu t1 t2) d))) (sb (ad (mu z1 z2) (mu z1 z2)) (ad (mu (mu t1 t2) d) (mu (mu t1 t2) d)))))) (fun w => times_m (ad_lt _ _) (sb_lt _ _) w) rfl rfl) <|
    oc (k_ld 8 0 (el (dig (sb (mu (ad y1 x1) (ad y2 x2)) (mu (sb y1 x1) (sb y2 x2))))) (c := ce (sb (mu (ad y1 x1) (ad y2 x2)) (mu (sb y1 x1) (sb y2 x2)))) (ldE (n := (sb (mu (ad y1 x1) (ad y2 x2)) (mu (sb y1 x1) (sb y2 x2)))) 46) rfl rfl) <|
    oc (k_ld 9 0 (el (dig (ad (mu (ad y1 x1) (ad y2 x2)) (mu (sb y1 x1) (sb y2 x2))))) (c := ce (ad (mu (ad y1 x1) (ad y2 x2)) (mu (sb y1 x1) (sb y2 x2)))) (ldE (n := (ad (mu (ad y1 x1) (ad y2 x2)) (mu (sb y1 x1) (sb y2 x2)))) 46) rfl rfl) <|
    oc (k_ca 75 #[el (dig (sb (mu (ad y1 x1) (ad y2 x2)) (mu (sb y1 x1) (sb y2 x2)))), el (dig (ad (mu (ad y1 x1) (ad y2 x2)) (mu (sb y1 x1) (sb y2 x2))))] (el (dig (mu (sb (mu (ad y1 x1) (ad y2 x2)) (mu (sb y1 x1) (sb y2 x2))) (ad (mu (ad y1 x1) (ad y2 x2)) (mu (sb y1 x1) (sb y2 x2)))))) (fun w => times_m (sb_lt _ _) (ad_lt _ _) w) rfl rfl) <|
    oc (k_bu #[(0, el (dig (mu (sb (mu (ad y1 x1) (ad y2 x2)) (mu (sb y1 x1) (sb y2 x2))) (sb (ad (mu z1 z2) (mu z1 z2)) (ad (mu (mu t1 t2) d) (mu (mu t1 t2) d)))))), (1, el (dig (mu (ad (mu (ad y1 x1) (ad y2 x2)) (mu (sb y1 x1) (sb y2 x2))) (ad (ad (mu z1 z2) (mu z1 z2)) (ad (mu (mu t1 t2) d) (mu (mu t1 t2) d)))))), (2, el (dig (mu (ad (ad (mu z1 z2) (mu z1 z2)) (ad (mu (mu t1 t2) d) (mu (mu t1 t2) d))) (sb (ad (mu z1 z2) (mu z1 z2)) (ad (mu (mu t1 t2) d) (mu (mu t1 t2) d)))))), (3, el (dig (mu (sb (mu (ad y1 x1) (ad y2 x2)) (mu (sb y1 x1) (sb y2 x2))) (ad (mu (ad y1 x1) (ad y2 x2)) (mu (sb y1 x1) (sb y2 x2))))))] (.agg (ces [(mu (sb (mu (ad y1 x1) (ad y2 x2)) (mu (sb y1 x1) (sb y2 x2))) (sb (ad (mu z1 z2) (mu z1 z2)) (ad (mu (mu t1 t2) d) (mu (mu t1 t2) d)))), (mu (ad (mu (ad y1 x1) (ad y2 x2)) (mu (sb y1 x1) (sb y2 x2))) (ad (ad (mu z1 z2) (mu z1 z2)) (ad (mu (mu t1 t2) d) (mu (mu t1 t2) d)))), (mu (ad (ad (mu z1 z2) (mu z1 z2)) (ad (mu (mu t1 t2) d) (mu (mu t1 t2) d))) (sb (ad (mu z1 z2) (mu z1 z2)) (ad (mu (mu t1 t2) d) (mu (mu t1 t2) d)))), (mu (sb (mu (ad y1 x1) (ad y2 x2)) (mu (sb y1 x1) (sb y2 x2))) (ad (mu (ad y1 x1) (ad y2 x2)) (mu (sb y1 x1) (sb y2 x2))))])) (bdS (a := (mu (sb (mu (ad y1 x1) (ad y2 x2)) (mu (sb y1 x1) (sb y2 x2))) (sb (ad (mu z1 z2) (mu z1 z2)) (ad (mu (mu t1 t2) d) (mu (mu t1 t2) d))))) (b := (mu (ad (mu (ad y1 x1) (ad y2 x2)) (mu (sb y1 x1) (sb y2 x2))) (ad (ad (mu z1 z2) (mu z1 z2)) (ad (mu (mu t1 t2) d) (mu (mu t1 t2) d))))) (c := (mu (ad (ad (mu z1 z2) (mu z1 z2)) (ad (mu (mu t1 t2) d) (mu (mu t1 t2) d))) (sb (ad (mu z1 z2) (mu z1 z2)) (ad (mu (mu t1 t2) d) (mu (mu t1 t2) d))))) (d := (mu (sb (mu (ad y1 x1) (ad y2 x2)) (mu (sb y1 x1) (sb y2 x2))) (ad (mu (ad y1 x1) (ad y2 x2)) (mu (sb y1 x1) (sb y2 x2)))))) rfl rfl) <|
    oc (k_st 3 0 (.agg (ces [(mu (sb (mu (ad y1 x1) (ad y2 x2)) (mu (sb y1 x1) (sb y2 x2))) (sb (ad (mu z1 z2) (mu z1 z2)) (ad (mu (mu t1 t2) d) (mu (mu t1 t2) d)))), (mu (ad (mu (ad y1 x1) (ad y2 x2)) (mu (sb y1 x1) (sb y2 x2))) (ad (ad (mu z1 z2) (mu z1 z2)) (ad (mu (mu t1 t2) d) (mu (mu t1 t2) d)))), (mu (ad (ad (mu z1 z2) (mu z1 z2)) (ad (mu (mu t1 t2) d) (mu (mu t1 t2) d))) (sb (ad (mu z1 z2) (mu z1 z2)) (ad (mu (mu t1 t2) d) (mu (mu t1 t2) d)))), (mu (sb (mu (ad y1 x1) (ad y2 x2)) (mu (sb y1 x1) (sb y2 x2))) (ad (mu (ad y1 x1) (ad y2 x2)) (mu (sb y1 x1) (sb y2 x2))))])) (c := ces [0, 0, 0, 0]) (n := ces [(mu (sb (mu (ad y1 x1) (ad y2 x2)) (mu (sb y1 x1) (sb y2 x2))) (sb (ad (mu z1 z2) (mu z1 z2)) (ad (mu (mu t1 t2) d) (mu (mu t1 t2) d)))), (mu (ad (mu (ad y1 x1) (ad y2 x2)) (mu (sb y1 x1) (sb y2 x2))) (ad (ad (mu z1 z2) (mu z1 z2)) (ad (mu (mu t1 t2) d) (mu (mu t1 t2) d)))), (mu (ad (ad (mu z1 z2) (mu z1 z2)) (ad (mu (mu t1 t2) d) (mu (mu t1 t2) d))) (sb (ad (mu z1 z2) (mu z1 z2)) (ad (mu (mu t1 t2) d) (mu (mu t1 t2) d)))), (mu (sb (mu (ad y1 x1) (ad y2 x2)) (mu (sb y1 x1) (sb y2 x2))) (ad (mu (ad y1 x1) (ad y2 x2)) (mu (sb y1 x1) (sb y2 x2))))]) (stS (a := (mu (sb (mu (ad y1 x1) (ad y2 x2)) (mu (sb y1 x1) (sb y2 x2))) (sb (ad (mu z1 z2) (mu z1 z2)) (ad (mu (mu t1 t2) d) (mu (mu t1 t2) d))))) (b := (mu (ad (mu (ad y1 x1) (ad y2 x2)) (mu (sb y1 x1) (sb y2 x2))) (ad (ad (mu z1 z2) (mu z1 z2)) (ad (mu (mu t1 t2) d) (mu (mu t1 t2) d))))) (c := (mu (ad (ad (mu z1 z2) (mu z1 z2)) (ad (mu (mu t1 t2) d) (mu (mu t1 t2) d))) (sb (ad (mu z1 z2) (mu z1 z2)) (ad (mu (mu t1 t2) d) (mu (mu t1 t2) d))))) (d := (mu (sb (mu (ad y1 x1) (ad y2 x2)) (mu (sb y1 x1) (sb y2 x2))) (ad (mu (ad y1 x1) (ad y2 x2)) (mu (sb y1 x1) (sb y2 x2))))) (e := ces [0, 0, 0, 0]) 78 (by rw [ces_size]; rfl)) rfl rfl) <|
    ok_nil
  clear h; intro β a w h
  refine sym_then ?_
  refine wp_ret ?_
  exact s_rc (b := 3) (t0 := 78) (c := ces [(mu (sb (mu (ad y1 x1) (ad y2 x2)) (mu (sb y1 x1) (sb y2 x2))) (sb (ad (mu z1 z2) (mu z1 z2)) (ad (mu (mu t1 t2) d) (mu (mu t1 t2) d)))), (mu (ad (mu (ad y1 x1) (ad y2 x2)) (mu (sb y1 x1) (sb y2 x2))) (ad (ad (mu z1 z2) (mu z1 z2)) (ad (mu (mu t1 t2) d) (mu (mu t1 t2) d)))), (mu (ad (ad (mu z1 z2) (mu z1 z2)) (ad (mu (mu t1 t2) d) (mu (mu t1 t2) d))) (sb (ad (mu z1 z2) (mu z1 z2)) (ad (mu (mu t1 t2) d) (mu (mu t1 t2) d)))), (mu (sb (mu (ad y1 x1) (ad y2 x2)) (mu (sb y1 x1) (sb y2 x2))) (ad (mu (ad y1 x1) (ad y2 x2)) (mu (sb y1 x1) (sb y2 x2))))]) h Tryz.results48 Tryz.underlying78 (fun hb => ⟨rfl, hb⟩) (by rw [ces_size]; kernel_rfl)

end Go.Proofs.YtacokkedomjgpaaGreatDoor

namespace Go.Proofs.YtacokkedomjgpaaGreatDoor
open Go.RowKit
set_option maxHeartbeats 4000000 in
theorem halves_d (F : Nat → Nat) (W0 : World) : Calls Tryz.prog 16 #[.agg (cw F)] W0 fun e w' => e = .returned (.tuple #[.agg (ck F), .agg (ck (hi32 F))]) ∧ Below W0.heap.size W0 w' := by
  refine s_in Tryz.func16 Tryz.ntmps16 rfl [.inl (.agg (cw F))] ?_
  intro β a h
  refine sym_seq ?_
  refine St.rg h [(1, .inr (0, pt 0)), (2, .inr (1, pt 0)), (3, .inr (2, pt 0))] [(cw F, 29), (ck (fun _ => 0), 23), (ck (fun _ => 0), 23)] [] [eN 0, eN 1, eN 2] ?_ ?_
  · exact oc (k_bx 0 (.agg (cw F)) (bxWd (F := F)) rfl rfl) <|
    oc (k_al 1 alK rfl rfl) <|
    oc (k_al 2 alK rfl rfl) <|
    ok_nil
  clear h; intro β a w h
  refine sym_then ?_
  refine sym_seq ?_
  refine St.rg h [(4, .inr (0, sl 0 32 64)), (5, .inr (0, pt 0)), (6, .inl (.agg (ck F))), (7, .inr (0, sl 32 32 32)), (8, .inr (0, pt 32)), (9, .inl (.agg (ck (hi32 F))))] [] [(1, ck F), (2, ck (hi32 F))] [nn, nn, eR 0, nn, nn, eR 0, eS 1, eS 2] ?_ ?_
  · exact oc (k_s3 0 0 32 64 none (some (.int .i64 32)) rfl rfl sl_lo) <|
    oc (k_sa 0 0 32 64 rfl rfl ar_lo) <|
    oc (k_ld 0 0 (.agg (ck F)) (c := cw F) (ld_half (F := F) (G := F) (off := 0) (by omega) (fun i => by rw [Nat.zero_add]) 29) rfl rfl) <|
    oc (k_s3 0 32 32 32 (some (.int .i64 32)) none rfl rfl sl_hi) <|
    oc (k_sa 0 32 32 32 rfl rfl ar_hi) <|
    oc (k_ld 0 32 (.agg (ck (hi32 F))) (c := cw F) (ld_half (F := F) (G := (hi32 F)) (off := 32) (by omega) (fun i => rfl) 29) rfl rfl) <|
    oc (k_st 1 0 (.agg (ck F)) (c := ck (fun _ => 0)) (n := ck F) (stK (F := F) (c := ck (fun _ => 0)) 23 (ck_size _)) rfl rfl) <|
    oc (k_st 2 0 (.agg (ck (hi32 F))) (c := ck (fun _ => 0)) (n := ck (hi32 F)) (stK (F := (hi32 F)) (c := ck (fun _ => 0)) 23 (ck_size _)) rfl rfl) <|
    ok_nil
  clear h; intro β a w h
  refine sym_then ?_
  refine wp_ret ?_
  exact s_rr (b := 1) (t0 := 23) (c := ck F) (b' := 2) (t0' := 23) (c' := ck (hi32 F)) h Tryz.results16 Tryz.underlying23 Tryz.underlying23 (fun hb => ⟨rfl, hb⟩) (by rw [ck_size]; kernel_rfl) (by rw [ck_size]; kernel_rfl)
end Go.Proofs.YtacokkedomjgpaaGreatDoor

namespace Go.Proofs.YtacokkedomjgpaaGreatDoor
open Go.RowKit
def rc (F : Nat → Nat) (k i : Nat) : Nat := if i < k then F i else 0
theorem rc_0 (F : Nat → Nat) : ck (fun _ => 0) = ck (rc F 0) := arr_congr fun i _ => by simp [rc]
theorem rc_s (F : Nat → Nat) (k : Nat) : ck (updN (rc F k) k (F k)) = ck (rc F (k + 1)) := arr_congr fun i _ => by
  have : updN (rc F k) k (F k) i = rc F (k + 1) i := by
    unfold updN rc
    by_cases e : i = k
    · subst e; simp
    · rw [if_neg e]
      by_cases h : i < k
      · rw [if_pos h, if_pos (by omega)]
      · rw [if_neg h, if_neg (by omega)]
  rw [this]
theorem rc_h (F : Nat → Nat) (k : Nat) : ck (updN (rc (hi32 F) k) k (F (k + 32))) = ck (rc (hi32 F) (k + 1)) := by
  have := rc_s (hi32 F) k
  rwa [show hi32 F k = F (k + 32) by unfold hi32; rw [Nat.add_comm]] at this
theorem rc_e (F : Nat → Nat) : ck (rc F 32) = ck F := arr_congr fun i hi => by simp [rc, hi]
theorem ix_wd {i : Nat} (hi : i < 64) (w : World) (q : Nat) : (Instr.indexAt 29 (.pointer (some ⟨q, 0, none⟩)) (.int .i64 (i : Nat))).run Tryz.prog w = .ok (.pointer (some ⟨q, i, none⟩)) w := by
  simp [Instr.indexAt, go_sem, hi]
theorem ix_key {i : Nat} (hi : i < 32) (w : World) (q : Nat) : (Instr.indexAt 23 (.pointer (some ⟨q, 0, none⟩)) (.int .i64 (i : Nat))).run Tryz.prog w = .ok (.pointer (some ⟨q, i, none⟩)) w := by
  simp [Instr.indexAt, go_sem, hi]
theorem ld_wd {t0 : TypeId} {i : Nat} {F : Nat → Nat} (hi : i < 64) (w : World) (q : Nat) (h : w.heap[q]? = some (.cells (cw F) t0 (0, 0))) : (Instr.loadAt 5 (.pointer (some ⟨q, i, none⟩))).run Tryz.prog w = .ok (.int .u8 (F i : Nat)) w := by
  have hc : w.cell? ⟨q, i, none⟩ = some (.int .u8 (F i : Nat)) := by rw [cell_of_row _ _ _ _ _ _ h]; unfold cw; exact arr_get 64 (fun i => Value.int .u8 (F i : Nat)) i hi
  simp [Instr.loadAt, go_sem, hc]
set_option maxHeartbeats 4000000 in
theorem rcut_r (F : Nat → Nat) (W0 : World) : Calls Tryz.prog 26 #[.agg (cw F)] W0 fun e w' => e = .returned (.tuple #[.agg (ck (rc F 32)), .agg (ck (rc (hi32 F) 32))]) ∧ Below W0.heap.size W0 w' := by
  refine s_in Tryz.func26 Tryz.ntmps26 rfl [.inl (.agg (cw F))] ?_
  intro β a h
  refine sym_seq ?_
  refine St.rg h [(1, .inr (0, pt 0)), (2, .inr (1, pt 0)), (3, .inr (2, pt 0))] [(cw F, 29), (ck (fun _ => 0), 23), (ck (fun _ => 0), 23)] [] [eN 0, eN 1, eN 2] ?_ ?_
  · exact oc (k_bx 0 (.agg (cw F)) (bxWd (F := F)) rfl rfl) <|
    oc (k_al 1 alK rfl rfl) <|
    oc (k_al 2 alK rfl rfl) <|
    ok_nil
  clear h; intro β a w h
  refine sym_then ?_
  refine sym_seq ?_
  refine St.rg h [(4, .inr (3, pt 0))] [(ck (fun _ => 0), 23)] [] [eN 3] ?_ ?_
  · exact oc (k_al 3 alK rfl rfl) <|
    ok_nil
  clear h; intro β a w h
  refine sym_then ?_
  refine sym_seq ?_
  refine St.rg h [(5, .inr (4, pt 0))] [(ck (fun _ => 0), 23)] [] [eN 4] ?_ ?_
  · exact oc (k_al 4 alK rfl rfl) <|
    ok_nil
  clear h; intro β a w h
  refine sym_then ?_
  refine sym_seq ?_
  refine sym_seq ?_
  refine St.r0 h [(6, .inl (.int .i64 (0 : Nat)))] [] ?_ ?_
  · exact oz (k_mv (.inr rfl) rfl) <|
    ok_nil
  clear h; intro β a w h
  refine sym_then ?_
  refine blk_in ?_
  replace h := St.sm h 3 (ck (rc F 0)) (c := ck (fun _ => 0)) (t := 23) (rc_0 _)
  replace h := St.sm h 4 (ck (rc (hi32 F) 0)) (c := ck (fun _ => 0)) (t := 23) (rc_0 _)
  obtain ⟨x, h⟩ := St.jn (n := 24) h [0, 1, 2, 3, 4, 5, 6] [.inl (.agg (cw F)), .inr (0, pt 0), .inr (1, pt 0), .inr (2, pt 0), .inr (3, pt 0), .inr (4, pt 0), .inl (.int .i64 (0 : Nat))] [(cw F, 29), (ck (fun _ => 0), 23), (ck (fun _ => 0), 23), (ck (rc F 0), 23), (ck (rc (hi32 F) 0), 23)] (by kernel_rfl) (by kernel_rfl) (by kernel_rfl)
  refine loop_up 32 (fun k a w => ∃ (x : Nat → SV) (β : Nat → Nat), St (wd W0) (ov (jk 24 x) ([0, 1, 2, 3, 4, 5, 6].zip [.inl (.agg (cw F)), .inr (0, pt 0), .inr (1, pt 0), .inr (2, pt 0), .inr (3, pt 0), .inr (4, pt 0), .inl (.int .i64 (k : Nat))])) [(cw F, 29), (ck (fun _ => 0), 23), (ck (fun _ => 0), 23), (ck (rc F k), 23), (ck (rc (hi32 F) k), 23)] β a w) ⟨x, _, h⟩ ?_
  clear h; rintro k a w hkk ⟨x, β, h⟩
  rcases Nat.lt_or_ge k 32 with hltk | hgek
  · refine sym_seq ?_
    refine sym_seq ?_
    refine St.r0 h [(7, .inl (.int .i64 (k : Nat))), (8, .inl (.bool true))] [] ?_ ?_
    · exact oz (k_mv (.inl rfl) rfl) <|
      oz (k_bi (.int .i64 (k : Nat)) (.int .i64 (32 : Nat)) (.bool true) (lt_i (m := ((k : Nat) : Int)) (n := ((32 : Nat) : Int)) (decide_eq_true (by omega))) rfl rfl) <|
      ok_nil
    clear h; intro β a w h
    refine sym_then ?_
    refine s_ct h ?_
    refine wp_skip ?_
    refine sym_then ?_
    refine sym_seq ?_
    refine blk_in ?_
    refine sym_seq ?_
    refine St.rg h [(11, .inl (.int .i64 (k : Nat))), (12, .inl (.int .i64 (k : Nat))), (13, .inr (0, pt k)), (14, .inl (.int .u8 ((F k) : Nat))), (15, .inr (3, pt k))] [] [(3, ck (updN (rc F k) k (F k)))] [nn, nn, nn, eR 0, nn, eS 3] ?_ ?_
    · exact oc (k_mv (.inl rfl) rfl) <|
      oc (k_mv (.inl rfl) rfl) <|
      oc (k_ia 0 0 k (.int .i64 (k : Nat)) (ix_wd (i := k) (by omega)) rfl rfl) <|
      oc (k_ld 0 k (.int .u8 ((F k) : Nat)) (c := cw F) (ld_wd (F := F) (i := k) (t0 := 29) (by omega)) rfl rfl) <|
      oc (k_ia 3 0 k (.int .i64 (k : Nat)) (ix_key (i := k) (by omega)) rfl rfl) <|
      oc (k_st 3 k (.int .u8 ((F k) : Nat)) (c := ck (rc F k)) (n := ck (updN (rc F k) k (F k))) (st_k (F := (rc F k)) (i := k) (v := (F k)) (t0 := 23) (by omega)) rfl rfl) <|
      ok_nil
    clear h; intro β a w h
    refine sym_then ?_
    refine St.rg h [(16, .inl (.int .i64 (k : Nat))), (17, .inl (.int .i64 (k : Nat))), (18, .inl (.int .i64 ((k + 32) : Nat))), (19, .inr (0, pt (k + 32))), (20, .inl (.int .u8 ((F (k + 32)) : Nat))), (21, .inr (4, pt k))] [] [(4, ck (updN (rc (hi32 F) k) k (F (k + 32))))] [nn, nn, nn, nn, eR 0, nn, eS 4] ?_ ?_
    · exact oc (k_mv (.inl rfl) rfl) <|
      oc (k_mv (.inl rfl) rfl) <|
      oc (k_bi (.int .i64 (k : Nat)) (.int .i64 (32 : Nat)) (.int .i64 ((k + 32) : Nat)) (ad_i (m := k) (n := 32) (by omega)) rfl rfl) <|
      oc (k_ia 0 0 ((k + 32)) (.int .i64 ((k + 32) : Nat)) (ix_wd (i := (k + 32)) (by omega)) rfl rfl) <|
      oc (k_ld 0 ((k + 32)) (.int .u8 ((F (k + 32)) : Nat)) (c := cw F) (ld_wd (F := F) (i := (k + 32)) (t0 := 29) (by omega)) rfl rfl) <|
      oc (k_ia 4 0 k (.int .i64 (k : Nat)) (ix_key (i := k) (by omega)) rfl rfl) <|
      oc (k_st 4 k (.int .u8 ((F (k + 32)) : Nat)) (c := ck (rc (hi32 F) k)) (n := ck (updN (rc (hi32 F) k) k (F (k + 32)))) (st_k (F := (rc (hi32 F) k)) (i := k) (v := (F (k + 32))) (t0 := 23) (by omega)) rfl rfl) <|
      ok_nil
    clear h; intro β a w h
    refine blk_norm ?_
    refine sym_then ?_
    refine St.r0 h [(9, .inl (.int .i64 (k : Nat))), (10, .inl (.int .i64 ((k + 1) : Nat))), (6, .inl (.int .i64 ((k + 1) : Nat)))] [eO] ?_ ?_
    · exact oc (k_m0 rfl rfl) <|
      oz (k_bi (.int .i64 (k : Nat)) (.int .i64 (1 : Nat)) (.int .i64 ((k + 1) : Nat)) (ad_i (m := k) (n := 1) (by omega)) rfl rfl) <|
      oz (k_mv (.inr rfl) rfl) <|
      ok_nil
    clear h; intro β a w h
    replace h := St.sm h 3 (ck (rc F (k + 1))) (c := ck (updN (rc F k) k (F k))) (t := 23) (rc_s _ _)
    replace h := St.sm h 4 (ck (rc (hi32 F) (k + 1))) (c := ck (updN (rc (hi32 F) k) k (F (k + 32)))) (t := 23) (rc_h _ _)
    obtain ⟨x, h⟩ := St.jn (n := 24) h [0, 1, 2, 3, 4, 5, 6] [.inl (.agg (cw F)), .inr (0, pt 0), .inr (1, pt 0), .inr (2, pt 0), .inr (3, pt 0), .inr (4, pt 0), .inl (.int .i64 ((k + 1) : Nat))] [(cw F, 29), (ck (fun _ => 0), 23), (ck (fun _ => 0), 23), (ck (rc F (k + 1)), 23), (ck (rc (hi32 F) (k + 1)), 23)] (by kernel_rfl) (by kernel_rfl) (by kernel_rfl)
    exact ⟨hltk, x, _, h⟩
  · obtain rfl : 32 = k := by omega
    refine sym_seq ?_
    refine sym_seq ?_
    refine St.r0 h [(7, .inl (.int .i64 (32 : Nat))), (8, .inl (.bool false))] [] ?_ ?_
    · exact oz (k_mv (.inl rfl) rfl) <|
      oz (k_bi (.int .i64 (32 : Nat)) (.int .i64 (32 : Nat)) (.bool false) (lt_i (m := ((32 : Nat) : Int)) (n := ((32 : Nat) : Int)) (decide_eq_false (by omega))) rfl rfl) <|
      ok_nil
    clear h; intro β a w h
    refine sym_then ?_
    refine s_cf h ?_
    refine wp_exit ?_
    refine then_exit ?_
    refine then_exit ?_
    refine blk_exit ?_
    refine sym_then ?_
    refine sym_seq ?_
    refine St.rg h [(22, .inl (.agg (ck (rc F 32)))), (23, .inl (.agg (ck (rc (hi32 F) 32))))] [] [(1, ck (rc F 32)), (2, ck (rc (hi32 F) 32))] [eR 3, eR 4, eS 1, eS 2] ?_ ?_
    · exact oc (k_ld 3 0 (.agg (ck (rc F 32))) (c := ck (rc F 32)) (ldK (b := (rc F 32)) 23) rfl rfl) <|
      oc (k_ld 4 0 (.agg (ck (rc (hi32 F) 32))) (c := ck (rc (hi32 F) 32)) (ldK (b := (rc (hi32 F) 32)) 23) rfl rfl) <|
      oc (k_st 1 0 (.agg (ck (rc F 32))) (c := ck (fun _ => 0)) (n := ck (rc F 32)) (stK (F := (rc F 32)) (c := ck (fun _ => 0)) 23 (ck_size _)) rfl rfl) <|
      oc (k_st 2 0 (.agg (ck (rc (hi32 F) 32))) (c := ck (fun _ => 0)) (n := ck (rc (hi32 F) 32)) (stK (F := (rc (hi32 F) 32)) (c := ck (fun _ => 0)) 23 (ck_size _)) rfl rfl) <|
      ok_nil
    clear h; intro β a w h
    refine sym_then ?_
    refine wp_ret ?_
    exact s_rr (b := 1) (t0 := 23) (c := ck (rc F 32)) (b' := 2) (t0' := 23) (c' := ck (rc (hi32 F) 32)) h Tryz.results26 Tryz.underlying23 Tryz.underlying23 (fun hb => ⟨rfl, hb⟩) (by rw [ck_size]; kernel_rfl) (by rw [ck_size]; kernel_rfl)
theorem rcut_d (F : Nat → Nat) (W0 : World) : Calls Tryz.prog 26 #[.agg (cw F)] W0 fun e w' => e = .returned (.tuple #[.agg (ck F), .agg (ck (hi32 F))]) ∧ Below W0.heap.size W0 w' := by
  have := rcut_r F W0
  rwa [rc_e, rc_e] at this
end Go.Proofs.YtacokkedomjgpaaGreatDoor

namespace Go.Proofs.YtacokkedomjgpaaGreatDoor.Lo
open Go.RowKit

theorem aS_cong {s : (Nat → Nat) × (Nat → Nat) × Nat} {f g : Nat → Nat} : ∀ k, (∀ i, i < k → f i = g i) → aS s f k = aS s g k
  | 0, _ => rfl
  | k + 1, h => by
    show a1 (aS s f k) (f k) = a1 (aS s g k) (g k)
    rw [aS_cong k (fun i hi => h i (by omega)), h k (by omega)]
theorem allS_join : ∀ (L : List Pt) (s : (Nat → Nat) × (Nat → Nat) × Nat), allS s L = aS s (joinF L) (lenS L)
  | [], s => rfl
  | x :: r, s => by
    have h : lenS (x :: r) = x.1 + lenS r := by simp [lenS]
    rw [h, aS_add]
    show allS (aS s x.2 x.1) r = _
    rw [allS_join r, aS_cong (f := joinF (x :: r)) (g := x.2) x.1 (fun i hi => by show (if i < x.1 then _ else _) = _; rw [if_pos hi])]
    refine aS_cong _ (fun i _ => ?_)
    show _ = if x.1 + i < x.1 then _ else joinF r (x.1 + i - x.1)
    rw [if_neg (by omega), show x.1 + i - x.1 = i by omega]
def zN (n : Nat) : Nat := (240 - (n + 1) % 128) % 128
def padF (f : Nat → Nat) (n : Nat) (i : Nat) : Nat := if i < n then f i else if i = n then 128 else if i < n + 1 + zN n then 0 else cntF n (i - (n + 1 + zN n))
def nP (n : Nat) : Nat := (n + 1 + zN n + 16) / 128
theorem nP_e (n : Nat) : n + 1 + zN n + 16 = 128 * nP n := by unfold nP zN; omega
theorem padF_lt {f : Nat → Nat} (hf : ∀ i, f i < 256) (n i : Nat) : padF f n i < 256 := by
  unfold padF
  split
  · exact hf i
  · split
    · decide
    · split
      · decide
      · exact cnt_lt _ _
theorem padS_join (f : Nat → Nat) (n : Nat) : padS (aS s0 f n) n = aS s0 (padF f n) (128 * nP n) := by
  have h0 : s0.2.2 < 128 := by show 0 < 128; decide
  have e1 : (aS (aS s0 f n) (fun _ => 128) 1).2.2 = (n + 1) % 128 := by
    rw [aS_mod (aS_fl h0 n), aS_mod h0]
    show ((0 + n) % 128 + 1) % 128 = _
    omega
  unfold padS
  rw [e1]
  show aS (aS (aS (aS s0 f n) (fun _ => 128) 1) (fun _ => 0) (zN n)) (cntF n) 16 = _
  rw [← nP_e, aS_add s0 (padF f n) (n + 1 + zN n) 16, aS_add s0 (padF f n) (n + 1) (zN n), aS_add s0 (padF f n) n 1]
  rw [aS_cong (f := padF f n) (g := f) n (fun i hi => by unfold padF; rw [if_pos hi])]
  rw [aS_cong (f := fun i => padF f n (n + i)) (g := fun _ => 128) 1 (fun i hi => by show padF f n (n + i) = 128; unfold padF; rw [if_neg (by omega), if_pos (by omega)])]
  rw [aS_cong (f := fun i => padF f n (n + 1 + i)) (g := fun _ => 0) (zN n) (fun i hi => by show padF f n (n + 1 + i) = 0; unfold padF; rw [if_neg (by omega), if_neg (by omega), if_pos (by omega)])]
  refine aS_cong _ (fun i hi => ?_)
  show _ = padF f n (n + 1 + zN n + i)
  unfold padF
  rw [if_neg (by omega), if_neg (by omega), if_neg (by omega), show n + 1 + zN n + i - (n + 1 + zN n) = i by omega]
theorem bwF_cong {p p' F : Nat → Nat} {t : Nat} (h : ∀ i, i < 8 * t + 8 → p i = p' i) : ∀ k, k ≤ 8 → bwF p F t k = bwF p' F t k
  | 0, _ => rfl
  | k + 1, hk => by
    simp only [bwF]
    rw [bwF_cong h k (by omega), h _ (by omega)]
theorem r16_cong {p p' : Nat → Nat} (h : ∀ i, i < 128 → p i = p' i) : ∀ t, t ≤ 16 → r16 p t = r16 p' t
  | 0, _ => rfl
  | t + 1, ht => by
    show bwF p (r16 p t) t 8 = bwF p' (r16 p' t) t 8
    rw [r16_cong h t (by omega)]
    exact bwF_cong (fun i hi => h i (by omega)) 8 (by omega)
theorem r80_cong {p p' : Nat → Nat} (h : ∀ i, i < 128 → p i = p' i) : ∀ k, r80 p k = r80 p' k
  | 0 => r16_cong h 16 (by omega)
  | k + 1 => by simp only [r80]; rw [r80_cong h k]
theorem mixH_cong {H p p' : Nat → Nat} (h : ∀ i, i < 128 → p i = p' i) : mixH H p = mixH H p' := by unfold mixH; rw [r80_cong h]
def bkH (H f : Nat → Nat) : Nat → Nat → Nat
  | 0 => H
  | k + 1 => mixH (bkH H f k) (fun i => f (128 * k + i))
theorem aS_bk (H p f : Nat → Nat) : ∀ k, (aS (H, p, 0) f (128 * k)).1 = bkH H f k ∧ (aS (H, p, 0) f (128 * k)).2.2 = 0
  | 0 => ⟨rfl, rfl⟩
  | k + 1 => by
    obtain ⟨h1, h2⟩ := aS_bk H p f k
    rw [show 128 * (k + 1) = 128 * k + 128 by omega, aS_add]
    rcases hs : aS (H, p, 0) f (128 * k) with ⟨H1, p1, l1⟩
    rw [hs] at h1 h2
    obtain rfl : l1 = 0 := h2
    obtain rfl : H1 = bkH H f k := h1
    rw [aS_full (bkH H f k) p1 0 (fun i => f (128 * k + i)) (by decide) rfl]
    refine ⟨mixH_cong (fun i hi => ?_), rfl⟩
    unfold cpF
    rw [if_pos (by omega)]; rfl
theorem longP_bk (L : List Pt) : longP L = outF (fun _ => 0) (bkH (bgF 8) (padF (joinF L) (lenS L)) (nP (lenS L))) 8 := by
  unfold longP
  rw [allS_join, padS_join]
  have h := (aS_bk (bgF 8) (fun _ => 0) (padF (joinF L) (lenS L)) (nP (lenS L))).1
  show outF _ (aS (bgF 8, fun _ => 0, 0) _ _).1 8 = _
  rw [h]
/-! Bytes of words. -/
theorem outF_e {F H : Nat → Nat} : ∀ k i, i < 8 * k → outF F H k i = H (i / 8) / 256 ^ (7 - i % 8) % 256
  | 0, i, h => by omega
  | k + 1, i, h => by
    show ptF (outF F H k) (8 * k) (H k) 8 i = _
    rcases Nat.lt_or_ge i (8 * k) with h1 | h1
    · rw [ptF_out (Or.inl h1) 8]; exact outF_e k i h1
    · obtain ⟨j, rfl⟩ : ∃ j, i = 8 * k + j := ⟨i - 8 * k, by omega⟩
      rw [ptF_in (by omega) 8 (by omega) (by omega), show (8 * k + j) / 8 = k by omega, show (8 * k + j) % 8 = j by omega]
end Go.Proofs.YtacokkedomjgpaaGreatDoor.Lo

namespace Go.Proofs.YtacokkedomjgpaaGreatDoor
open Go.RowKit
def RowAt (w : World) (a : Option Addr) (xs : List Value) : Prop := 0 < xs.length → ∃ b off, a = some ⟨b, off, none⟩ ∧ ∀ i v, xs[i]? = some v → w.cell? ⟨b, off + i, none⟩ = some v
theorem RowAt.later {w w' : World} {a : Option Addr} {xs : List Value} (h : RowAt w a xs) (hb : Below w.heap.size w w') : RowAt w' a xs := fun h0 => by
  obtain ⟨b, off, e, hc⟩ := h h0
  exact ⟨b, off, e, fun i v hi => cell_later hb (hc i v hi)⟩
def RowsAt (w : World) (a : Option Addr) (ps : List (List Value)) : Prop := 0 < ps.length → ∃ b off, a = some ⟨b, off, none⟩ ∧ ∀ i, i < ps.length → ∃ a' cap, w.cell? ⟨b, off + i, none⟩ = some (.slice a' (ps.getD i []).length cap) ∧ RowAt w a' (ps.getD i [])
def vL (ps : List (List Value)) (k : Nat) : Nat := (ps.take k).flatten.length
theorem vflat_snoc (ps : List (List Value)) (k : Nat) (h : k < ps.length) : (ps.take (k + 1)).flatten = (ps.take k).flatten ++ ps.getD k [] := by
  rw [List.take_succ_eq_append_getElem h, List.flatten_append]; simp [List.getD_eq_getElem?_getD, h]
theorem vL_mono (ps : List (List Value)) (k : Nat) : vL ps k ≤ vL ps ps.length := by
  unfold vL
  rw [List.take_length]
  conv => rhs; rw [← List.take_append_drop k ps, List.flatten_append, List.length_append]
  omega
theorem vL_snoc (ps : List (List Value)) (k : Nat) (h : k < ps.length) : vL ps (k + 1) = vL ps k + (ps.getD k []).length := by
  unfold vL; rw [vflat_snoc ps k h, List.length_append]
theorem zeros_v (z : Value) (n : Nat) : (Builtin.zeroCells #[z] n).size = n := by simp [Builtin.zeroCells]
end Go.Proofs.YtacokkedomjgpaaGreatDoor

namespace Go.Proofs.YtacokkedomjgpaaGreatDoor
open Go.RowKit
theorem info_s : (Tryz.prog.info? 31).map (fun i => (i.zero, i.size, i.bytes)) = some (some (.slice none 0 0), 1, 24) := by kernel_rfl
set_option maxHeartbeats 800000 in
theorem grow_s (n : Nat) (h0 : 0 < n) (hm : n * 24 ≤ 140737488355328) (w : World) :
    Calls Tryz.prog 82 #[.slice none 0 0, .int .i64 (n : Int)] w fun e w' => ∃ cap, e = .returned (.slice (some ⟨w.heap.size, 0, none⟩) 0 cap) ∧ n ≤ cap ∧ w'.ownsRow w.heap.size 31 1 (.slice (some ⟨w.heap.size, 0, none⟩) 0 cap) 0 [] ∧ Below w.heap.size w w' := by
  obtain ⟨i0, hi, hz0, hz1, hz2⟩ := info_parts info_s
  have hr : ∀ ty w, (Builtin.append_ #[41, 3] ty #[.slice none 0 0, .int .i64 (n : Int)]).run Tryz.prog w = _ := fun ty w => Lib.run_append_nil_zeros (P := Tryz.prog) w 41 3 ty 31 i0 (.slice none 0 0) .i64 .i64 Tryz.underlying41 Tryz.underlying3 hi hz0 n h0 (by rw [hz1]; decide) (by omega) (by rw [hz2]; omega)
  have hge := grownCap_ge w n 0 31
  have hle := grownCap_le_maxLen w n 0 31 (by unfold maxLen; omega)
  have hr0 := fun ty => hr ty w
  clear hi hz0 hz1 hz2 hr
  generalize grownCap w n 0 31 = G at hr0 hge hle
  go_enter Tryz.func82, Tryz.ntmps82
  go_wp2_with (at_builtin; refine Lib.wpList_append_run _ rfl _ _ _ _ rfl _ _ rfl rfl _ _ (hr0 _) ?_)
  go_ret
  refine ⟨G, rfl, hge, ⟨rfl, .inr ⟨w.heap.size, G, _, rfl, Nat.le_refl _, World.alloc_heap_new w.drew _, Nat.zero_le _, hle, ?_, by simp⟩⟩, ((Below.refl _ w).drew).alloc (Nat.le_refl _) _⟩
  rw [Array.size_append, zeros_v, zeros_v]; omega
theorem run_append_s (w : World) (base ty : Nat) (v : Value) (n : Nat) (xs : List Value) (hown : w.ownsRow base 31 1 v n xs) (a : Option Addr) (c : Nat) (ys : List Value) (hb : RowAt w a ys) (h1 : ∀ u ∈ ys, u.oneCell' = true)
    (hbytes : (n + ys.length) * 24 ≤ 140737488355328) (hbase : base ≤ w.heap.size) :
    ∃ v' w', (Builtin.append_ #[41, 41] ty #[v, .slice a ys.length c]).run Tryz.prog w = .ok v' w' ∧ w'.ownsRow base 31 1 v' (n + ys.length) (xs ++ ys) ∧ w.grownBy w' v.ownBlock := by
  obtain ⟨i0, hi, hz0, hz1, hz2⟩ := info_parts info_s
  cases a with
  | none =>
    obtain rfl : ys = [] := by
      rcases Nat.eq_zero_or_pos ys.length with h | h
      · exact List.eq_nil_of_length_eq_zero h
      · obtain ⟨_, _, e, _⟩ := hb h; cases e
    refine ⟨v, w, ?_, by simpa using hown, ⟨rfl, rfl, rfl, Nat.le_refl _, fun _ _ _ => rfl⟩⟩
    rcases hown.2 with ⟨rfl, rfl⟩ | ⟨g, cap, cur, rfl, _, _, hnc, _⟩
    · simp [Builtin.append_, run_underlying Tryz.underlying41, sizeOf, typeInfo, hi, Builtin.lenOf, Builtin.firstCells]
    · simp [Builtin.append_, run_underlying Tryz.underlying41, sizeOf, typeInfo, hi, Builtin.lenOf, Builtin.firstCells, hnc, storeCells]
  | some ad =>
    have hnews : ∀ j u, ys[j]? = some u → w.cell? (ad.add j) = some u := by
      intro j u hj
      have hjl := (List.getElem?_eq_some_iff.1 hj).1
      obtain ⟨b, off, e, hc⟩ := hb (by omega)
      cases e
      rw [Addr.add_lit]; exact hc j u hj
    obtain ⟨v', w', hr, h4, h5, _, h6⟩ := run_append_own_at (P := Tryz.prog) w base 41 ty 31 i0 (.slice none 0 0) 1 24 Tryz.underlying41 hi hz0 hz1 hz2 rfl (by decide) v n xs hown ad ys.length c ys (by simp) hnews h1 (by unfold maxLen; omega) hbytes hbase
    exact ⟨v', w', hr, h4, h5⟩
theorem wpList_append_s {w : World} {ops : Array Oper} {rest : List Oper} {o : Oper} {a : Act} {Q : Exit → Act → World → Prop} (hgd : o.guard = none) (s x : Operand)
    (ho : o.op = .call { callee := .builtin .append, args := #[s, x], argTypes := #[41, 41] }) (base : Nat)
    (v : Value) (n : Nat) (xs : List Value) (hs : a.eval s = v) (hown : w.ownsRow base 31 1 v n xs) (ad : Option Addr) (c : Nat) (ys : List Value) (hx : a.eval x = .slice ad ys.length c) (hb : RowAt w ad ys) (h1 : ∀ u ∈ ys, u.oneCell' = true)
    (hbytes : (n + ys.length) * 24 ≤ 140737488355328) (hbase : base ≤ w.heap.size)
    (h : ∀ v' w', w'.ownsRow base 31 1 v' (n + ys.length) (xs ++ ys) → w.grownBy w' v.ownBlock → wpList Tryz.prog ops Q rest (a.put o.dst v') w') : wpList Tryz.prog ops Q (o :: rest) a w := by
  refine wpList_plain hgd fun K hK => ?_
  obtain ⟨v', w', hr, h2, h3⟩ := run_append_s w base o.type v n xs hown ad c ys hb h1 hbytes hbase
  unfold Oper.wp execOp
  simp only [ho, resolve, invoke, builtin, Sem.run_bind, Sem.run_pure, Result.andThen_ok, List.map_toArray, List.map_cons, List.map_nil, hs, hx, hr]
  exact hK _ _ (h v' w' h2 h3)
set_option maxHeartbeats 800000 in
theorem concat_s (a : Option Addr) (cap : Nat) (ps : List (List Value)) (w : World) (hp : RowsAt w a ps) (n : Nat) (hl : ps.length = n) (hn : n ≤ 1000) (h0 : 0 < ps.flatten.length) (hm : ps.flatten.length * 24 ≤ 140737488355328) (h1 : ∀ l ∈ ps, ∀ u ∈ l, u.oneCell' = true) :
    Calls Tryz.prog 42 #[.slice a n cap] w fun e w' => ∃ v, e = .returned v ∧ w'.ownsRow w.heap.size 31 1 v ps.flatten.length ps.flatten ∧ Below w.heap.size w w' := by
  have hc := hp
  unfold RowsAt at hc
  rw [hl] at hc
  have hfl : vL ps n = ps.flatten.length := by unfold vL; rw [List.take_of_length_le (by omega)]
  rw [← hfl] at h0 hm ⊢
  have HF := hide1 hfl
  have hmono : ∀ k, vL ps k ≤ vL ps n := by rw [← hl]; exact vL_mono ps
  clear hfl
  have f0 : vL ps 0 = 0 := rfl
  go_enter Tryz.func42, Tryz.ntmps42
  go_wp2
  go_loop [3, 11] (fun x i => ∃ k : Nat, k ≤ n ∧ i = .int .i64 k ∧ x = .int .i64 (vL ps k : Nat)) (fun _ i => n - (intOf i).toNat)
  case atStart => exact ⟨0, by omega, rfl, rfl⟩
  case round =>
    obtain ⟨k, hk, rfl, rfl⟩ := hrel
    by_cases hlt : k < n
    · obtain ⟨b, off, rfl, hcell⟩ := hc (by omega)
      obtain ⟨a', cap', hck, hbs⟩ := hcell k hlt
      have hle := vL_snoc ps k (by omega)
      have hle2 := hmono (k + 1)
      obtain ⟨len, hlen⟩ : ∃ len, Hid ((ps.getD k []).length = len) := ⟨_, hide1 rfl⟩
      rw [hlen.out] at hle hck
      have HS := hide1 hle
      clear hc hcell hmono hp
      go_wp2
      refine ⟨⟨k + 1, by omega, by go_num, congrArg (Value.int .i64) ?_⟩, by simp [intOf]; omega⟩
      rw [HS.out]; omega
    · obtain rfl : k = n := by omega
      clear hlt
      go_wp2_with fail
      refine (grow_s _ h0 hm _).mono ?_
      rintro e w1 ⟨cap1, rfl, hcap1, hown1, hb1⟩
      go_wp2_with fail
      go_loopw [6, 27] (fun x i wr => ∃ j : Nat, j ≤ k ∧ i = .int .i64 j ∧ wr.ownsRow w.heap.size 31 1 x (vL ps j) (ps.take j).flatten ∧ Below w.heap.size w wr) (fun _ i _ => k - (intOf i).toNat)
      case atStart => exact ⟨0, by omega, rfl, hown1, hb1⟩
      case round =>
        obtain ⟨j, hj, rfl, hown, hbw⟩ := hrel
        by_cases hjk : j < k
        · obtain ⟨b, off, rfl, hcell⟩ := hc (by omega)
          obtain ⟨a', cap', hck, hbs⟩ := hcell j hjk
          have hle := vL_snoc ps j (by omega)
          have hle2 := hmono (j + 1)
          have hone := h1 (ps.getD j []) (by rw [List.getD_eq_getElem?_getD, List.getElem?_eq_getElem (by omega)]; exact List.getElem_mem _)
          have hfs := vflat_snoc ps j (by omega)
          obtain ⟨ys, hys⟩ : ∃ ys, Hid (ps.getD j [] = ys) := ⟨_, hide1 rfl⟩
          rw [hys.out] at hle hck hfs hone hbs
          have HS := hide1 hle
          have HT := hide1 hfs
          have hck' := cell_later hbw hck
          have hbs' := hbs.later hbw
          have hbyt : (vL ps j + ys.length) * 24 ≤ 140737488355328 := by omega
          clear hc hcell hmono hfs hck hbs hp
          go_wp2_with (at_builtin; refine wpList_append_s rfl (.tmp 31) (.tmp 32) rfl w.heap.size _ _ _ rfl hown _ cap' ys rfl hbs' hone hbyt hbw.size ?_; intro v2 w2 hown2 hg2; have hb2 := hbw.grown hg2 hbw.size (fun k e => (hown.lt k e).1))
          go_roundw
          case rel => exact ⟨j + 1, by omega, by go_num, by rw [HS.out, HT.out]; exact hown2, hb2⟩
          case measure => simp [intOf]; omega
        · obtain rfl : j = k := by omega
          go_wp2
          go_ret
          rw [List.take_of_length_le (by omega)] at hown
          exact ⟨_, rfl, hown, hbw⟩
end Go.Proofs.YtacokkedomjgpaaGreatDoor

namespace Go.Proofs.YtacokkedomjgpaaGreatDoor
open Go.RowKit
theorem info_b : (Tryz.prog.info? 5).map (fun i => (i.zero, i.size, i.bytes)) = some (some (.int .u8 0), 1, 1) := by kernel_rfl
set_option maxHeartbeats 800000 in
theorem grow_b (n : Nat) (h0 : 0 < n) (hm : n * 1 ≤ 140737488355328) (w : World) :
    Calls Tryz.prog 86 #[.slice none 0 0, .int .i64 (n : Int)] w fun e w' => ∃ cap, e = .returned (.slice (some ⟨w.heap.size, 0, none⟩) 0 cap) ∧ n ≤ cap ∧ w'.ownsRow w.heap.size 5 1 (.slice (some ⟨w.heap.size, 0, none⟩) 0 cap) 0 [] ∧ Below w.heap.size w w' := by
  obtain ⟨i0, hi, hz0, hz1, hz2⟩ := info_parts info_b
  have hr : ∀ ty w, (Builtin.append_ #[31, 3] ty #[.slice none 0 0, .int .i64 (n : Int)]).run Tryz.prog w = _ := fun ty w => Lib.run_append_nil_zeros (P := Tryz.prog) w 31 3 ty 5 i0 (.int .u8 0) .i64 .i64 Tryz.underlying31 Tryz.underlying3 hi hz0 n h0 (by rw [hz1]; decide) (by omega) (by rw [hz2]; omega)
  have hge := grownCap_ge w n 0 5
  have hle := grownCap_le_maxLen w n 0 5 (by unfold maxLen; omega)
  have hr0 := fun ty => hr ty w
  clear hi hz0 hz1 hz2 hr
  generalize grownCap w n 0 5 = G at hr0 hge hle
  go_enter Tryz.func86, Tryz.ntmps86
  go_wp2_with (at_builtin; refine Lib.wpList_append_run _ rfl _ _ _ _ rfl _ _ rfl rfl _ _ (hr0 _) ?_)
  go_ret
  refine ⟨G, rfl, hge, ⟨rfl, .inr ⟨w.heap.size, G, _, rfl, Nat.le_refl _, World.alloc_heap_new w.drew _, Nat.zero_le _, hle, ?_, by simp⟩⟩, ((Below.refl _ w).drew).alloc (Nat.le_refl _) _⟩
  rw [Array.size_append, zeros_v, zeros_v]; omega
theorem run_append_b (w : World) (base ty : Nat) (v : Value) (n : Nat) (xs : List Value) (hown : w.ownsRow base 5 1 v n xs) (a : Option Addr) (c : Nat) (ys : List Value) (hb : RowAt w a ys) (h1 : ∀ u ∈ ys, u.oneCell' = true)
    (hbytes : (n + ys.length) * 1 ≤ 140737488355328) (hbase : base ≤ w.heap.size) :
    ∃ v' w', (Builtin.append_ #[31, 31] ty #[v, .slice a ys.length c]).run Tryz.prog w = .ok v' w' ∧ w'.ownsRow base 5 1 v' (n + ys.length) (xs ++ ys) ∧ w.grownBy w' v.ownBlock := by
  obtain ⟨i0, hi, hz0, hz1, hz2⟩ := info_parts info_b
  cases a with
  | none =>
    obtain rfl : ys = [] := by
      rcases Nat.eq_zero_or_pos ys.length with h | h
      · exact List.eq_nil_of_length_eq_zero h
      · obtain ⟨_, _, e, _⟩ := hb h; cases e
    refine ⟨v, w, ?_, by simpa using hown, ⟨rfl, rfl, rfl, Nat.le_refl _, fun _ _ _ => rfl⟩⟩
    rcases hown.2 with ⟨rfl, rfl⟩ | ⟨g, cap, cur, rfl, _, _, hnc, _⟩
    · simp [Builtin.append_, run_underlying Tryz.underlying31, sizeOf, typeInfo, hi, Builtin.lenOf, Builtin.firstCells]
    · simp [Builtin.append_, run_underlying Tryz.underlying31, sizeOf, typeInfo, hi, Builtin.lenOf, Builtin.firstCells, hnc, storeCells]
  | some ad =>
    have hnews : ∀ j u, ys[j]? = some u → w.cell? (ad.add j) = some u := by
      intro j u hj
      have hjl := (List.getElem?_eq_some_iff.1 hj).1
      obtain ⟨b, off, e, hc⟩ := hb (by omega)
      cases e
      rw [Addr.add_lit]; exact hc j u hj
    obtain ⟨v', w', hr, h4, h5, _, h6⟩ := run_append_own_at (P := Tryz.prog) w base 31 ty 5 i0 (.int .u8 0) 1 1 Tryz.underlying31 hi hz0 hz1 hz2 rfl (by decide) v n xs hown ad ys.length c ys (by simp) hnews h1 (by unfold maxLen; omega) hbytes hbase
    exact ⟨v', w', hr, h4, h5⟩
theorem wpList_append_b {w : World} {ops : Array Oper} {rest : List Oper} {o : Oper} {a : Act} {Q : Exit → Act → World → Prop} (hgd : o.guard = none) (s x : Operand)
    (ho : o.op = .call { callee := .builtin .append, args := #[s, x], argTypes := #[31, 31] }) (base : Nat)
    (v : Value) (n : Nat) (xs : List Value) (hs : a.eval s = v) (hown : w.ownsRow base 5 1 v n xs) (ad : Option Addr) (c : Nat) (ys : List Value) (hx : a.eval x = .slice ad ys.length c) (hb : RowAt w ad ys) (h1 : ∀ u ∈ ys, u.oneCell' = true)
    (hbytes : (n + ys.length) * 1 ≤ 140737488355328) (hbase : base ≤ w.heap.size)
    (h : ∀ v' w', w'.ownsRow base 5 1 v' (n + ys.length) (xs ++ ys) → w.grownBy w' v.ownBlock → wpList Tryz.prog ops Q rest (a.put o.dst v') w') : wpList Tryz.prog ops Q (o :: rest) a w := by
  refine wpList_plain hgd fun K hK => ?_
  obtain ⟨v', w', hr, h2, h3⟩ := run_append_b w base o.type v n xs hown ad c ys hb h1 hbytes hbase
  unfold Oper.wp execOp
  simp only [ho, resolve, invoke, builtin, Sem.run_bind, Sem.run_pure, Result.andThen_ok, List.map_toArray, List.map_cons, List.map_nil, hs, hx, hr]
  exact hK _ _ (h v' w' h2 h3)
set_option maxHeartbeats 800000 in
theorem concat_b (a : Option Addr) (cap : Nat) (ps : List (List Value)) (w : World) (hp : RowsAt w a ps) (n : Nat) (hl : ps.length = n) (hn : n ≤ 1000) (h0 : 0 < ps.flatten.length) (hm : ps.flatten.length * 1 ≤ 140737488355328) (h1 : ∀ l ∈ ps, ∀ u ∈ l, u.oneCell' = true) :
    Calls Tryz.prog 53 #[.slice a n cap] w fun e w' => ∃ v, e = .returned v ∧ w'.ownsRow w.heap.size 5 1 v ps.flatten.length ps.flatten ∧ Below w.heap.size w w' := by
  have hc := hp
  unfold RowsAt at hc
  rw [hl] at hc
  have hfl : vL ps n = ps.flatten.length := by unfold vL; rw [List.take_of_length_le (by omega)]
  rw [← hfl] at h0 hm ⊢
  have HF := hide1 hfl
  have hmono : ∀ k, vL ps k ≤ vL ps n := by rw [← hl]; exact vL_mono ps
  clear hfl
  have f0 : vL ps 0 = 0 := rfl
  go_enter Tryz.func53, Tryz.ntmps53
  go_wp2
  go_loop [3, 11] (fun x i => ∃ k : Nat, k ≤ n ∧ i = .int .i64 k ∧ x = .int .i64 (vL ps k : Nat)) (fun _ i => n - (intOf i).toNat)
  case atStart => exact ⟨0, by omega, rfl, rfl⟩
  case round =>
    obtain ⟨k, hk, rfl, rfl⟩ := hrel
    by_cases hlt : k < n
    · obtain ⟨b, off, rfl, hcell⟩ := hc (by omega)
      obtain ⟨a', cap', hck, hbs⟩ := hcell k hlt
      have hle := vL_snoc ps k (by omega)
      have hle2 := hmono (k + 1)
      obtain ⟨len, hlen⟩ : ∃ len, Hid ((ps.getD k []).length = len) := ⟨_, hide1 rfl⟩
      rw [hlen.out] at hle hck
      have HS := hide1 hle
      clear hc hcell hmono hp
      go_wp2
      refine ⟨⟨k + 1, by omega, by go_num, congrArg (Value.int .i64) ?_⟩, by simp [intOf]; omega⟩
      rw [HS.out]; omega
    · obtain rfl : k = n := by omega
      clear hlt
      go_wp2_with fail
      refine (grow_b _ h0 hm _).mono ?_
      rintro e w1 ⟨cap1, rfl, hcap1, hown1, hb1⟩
      go_wp2_with fail
      go_loopw [6, 27] (fun x i wr => ∃ j : Nat, j ≤ k ∧ i = .int .i64 j ∧ wr.ownsRow w.heap.size 5 1 x (vL ps j) (ps.take j).flatten ∧ Below w.heap.size w wr) (fun _ i _ => k - (intOf i).toNat)
      case atStart => exact ⟨0, by omega, rfl, hown1, hb1⟩
      case round =>
        obtain ⟨j, hj, rfl, hown, hbw⟩ := hrel
        by_cases hjk : j < k
        · obtain ⟨b, off, rfl, hcell⟩ := hc (by omega)
          obtain ⟨a', cap', hck, hbs⟩ := hcell j hjk
          have hle := vL_snoc ps j (by omega)
          have hle2 := hmono (j + 1)
          have hone := h1 (ps.getD j []) (by rw [List.getD_eq_getElem?_getD, List.getElem?_eq_getElem (by omega)]; exact List.getElem_mem _)
          have hfs := vflat_snoc ps j (by omega)
          obtain ⟨ys, hys⟩ : ∃ ys, Hid (ps.getD j [] = ys) := ⟨_, hide1 rfl⟩
          rw [hys.out] at hle hck hfs hone hbs
          have HS := hide1 hle
          have HT := hide1 hfs
          have hck' := cell_later hbw hck
          have hbs' := hbs.later hbw
          have hbyt : (vL ps j + ys.length) * 1 ≤ 140737488355328 := by omega
          clear hc hcell hmono hfs hck hbs hp
          go_wp2_with (at_builtin; refine wpList_append_b rfl (.tmp 31) (.tmp 32) rfl w.heap.size _ _ _ rfl hown _ cap' ys rfl hbs' hone hbyt hbw.size ?_; intro v2 w2 hown2 hg2; have hb2 := hbw.grown hg2 hbw.size (fun k e => (hown.lt k e).1))
          go_roundw
          case rel => exact ⟨j + 1, by omega, by go_num, by rw [HS.out, HT.out]; exact hown2, hb2⟩
          case measure => simp [intOf]; omega
        · obtain rfl : j = k := by omega
          go_wp2
          go_ret
          rw [List.take_of_length_le (by omega)] at hown
          exact ⟨_, rfl, hown, hbw⟩
end Go.Proofs.YtacokkedomjgpaaGreatDoor

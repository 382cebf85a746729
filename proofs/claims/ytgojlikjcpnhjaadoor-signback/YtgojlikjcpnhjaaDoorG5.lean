/- R, G, H, I, M, S, T, Y, X8, U, AnyRoot, M2, Root, P1, P2, Crv1, Crv2, Crv3, P3: laid together. -/
import Derived.ProofKit
import Derived.OpenShut
import Derived.ShutString
import Derived.ChangeOld
import Derived.Test.YtgojlikjcpnhjaaDoorG4
import Derived.Test.YtgojlikjcpnhjaaDoorG1
import Derived.Test.YtgojlikjcpnhjaaDoorG2
namespace Go.Proofs.YtgojlikjcpnhjaaDoor
open Go.RowKit

theorem cells_of_row {u : World} {p : Nat} {x : Nat → Nat} {t : TypeId} (h : u.heap[p]? = some (.cells (cs x) t (0, 0))) :
    u.cell? ⟨p, 0, none⟩ = some (.int .u64 (x 0)) ∧ u.cell? ⟨p, 1, none⟩ = some (.int .u64 (x 1)) ∧ u.cell? ⟨p, 2, none⟩ = some (.int .u64 (x 2)) ∧ u.cell? ⟨p, 3, none⟩ = some (.int .u64 (x 3)) := by
  refine ⟨?_, ?_, ?_, ?_⟩ <;> rw [cell_of_row _ _ _ _ _ _ h] <;> rfl

theorem pw_mul {X a y e f z : Nat} (ha : a = X ^ e % pp) (hy : y = X ^ f % pp) (hz : z = a * y % pp) : z = X ^ (e + f) % pp := by
  rw [hz, ha, hy, Nat.pow_add, ← Nat.mul_mod]

theorem inv_pow {X E z s f g h l y : Nat} (hE : E = 1809251394333065553493296640760748560207343510400633813116524750123642650623) (hz : z = X ^ E % pp) (hs : s = X * X % pp) (hf : f = s * s % pp) (hg : g = f * f % pp) (hh : h = g * s % pp) (hl : l = h * X % pp)
    (hy : y = z ^ (2 ^ 5) * l % pp) (hX : X < pp) : ∃ e : Nat, e = 57896044618658097711785492504343953926634992332820282019728792003956564819947 ∧ y = X ^ e % pp := by
  have h1 : X = X ^ 1 % pp := by rw [Nat.pow_one, Nat.mod_eq_of_lt hX]
  have h2 := pw_mul h1 h1 hs
  have h4 := pw_mul h2 h2 hf
  have h8 := pw_mul h4 h4 hg
  have h10 := pw_mul h8 h2 hh
  have h11 := pw_mul h10 h1 hl
  have h := pw_step hz h11 hy
  exact ⟨_, by rw [hE], h⟩

theorem times_fn : ∃ tm : (Nat → Nat) → (Nat → Nat) → (Nat → Nat), ∀ x y, Ok x → Ok y → Ok (tm x y) ∧ Hid (nm (tm x y) = nm x * nm y % pp) ∧
    ∀ w, Calls Tryd.prog 56 #[el x, el y] w fun e w' => e = .returned (el (tm x y)) ∧ Below w.heap.size w w' := by
  have h : ∀ x, ∃ f : (Nat → Nat) → (Nat → Nat), ∀ y, Ok x → Ok y → Ok (f y) ∧ Hid (nm (f y) = nm x * nm y % pp) ∧ ∀ w, Calls Tryd.prog 56 #[el x, el y] w fun e w' => e = .returned (el (f y)) ∧ Below w.heap.size w w' := by
    intro x
    refine Classical.axiomOfChoice (r := fun y z => Ok x → Ok y → Ok z ∧ Hid (nm z = nm x * nm y % pp) ∧ ∀ w, Calls Tryd.prog 56 #[el x, el y] w fun e w' => e = .returned (el z) ∧ Below w.heap.size w w') (fun y => ?_)
    by_cases hx : Ok x
    · by_cases hy : Ok y
      · obtain ⟨z, h1, h2, h3⟩ := times_el x y hx hy
        exact ⟨z, fun _ _ => ⟨h1, h2, h3⟩⟩
      · exact ⟨x, fun _ h => absurd h hy⟩
    · exact ⟨x, fun h => absurd h hx⟩
  exact Classical.axiomOfChoice (r := fun x (f : (Nat → Nat) → (Nat → Nat)) => ∀ y, Ok x → Ok y → Ok (f y) ∧ Hid (nm (f y) = nm x * nm y % pp) ∧ ∀ w, Calls Tryd.prog 56 #[el x, el y] w fun e w' => e = .returned (el (f y)) ∧ Below w.heap.size w w') h

set_option maxRecDepth 100000 in
set_option maxHeartbeats 4000000 in
theorem inverse_any (x : Nat → Nat) (hx : Ok x) (w : World) :
    Calls Tryd.prog 63 #[el x] w fun e w' => ∃ (z : Nat → Nat) (k : Nat), Ok z ∧ Hid (k = 57896044618658097711785492504343953926634992332820282019728792003956564819947) ∧ Hid (nm z = nm x ^ k % pp) ∧ e = .returned (el z) ∧ Below w.heap.size w w' := by
  obtain ⟨s, hs, es, c1⟩ := times_el x x hx hx
  obtain ⟨f, hf, ef, c2⟩ := times_el s s hs hs
  obtain ⟨tm, htm⟩ := times_fn
  obtain ⟨hg, eg, _⟩ := htm f f hf hf
  obtain ⟨hh, eh, _⟩ := htm (tm f f) s hg hs
  obtain ⟨hl, e11, _⟩ := htm (tm (tm f f) s) x hh hx
  have ctm : ∀ x y, Ok x → Ok y → ∀ w, Calls Tryd.prog 56 #[el x, el y] w fun e w' => e = .returned (el (tm x y)) ∧ Below w.heap.size w w' := fun x y hx hy => (htm x y hx hy).2.2
  clear htm
  go_enter Tryd.func63, Tryd.ntmps63
  have ra := row2_0 w (.cells (cs x) 42) (.cells #[.int .u64 0, .int .u64 0, .int .u64 0, .int .u64 0] 42)
  have rr := row2_1 w (.cells (cs x) 42) (.cells #[.int .u64 0, .int .u64 0, .int .u64 0, .int .u64 0] 42)
  go_wp2_with fail
  refine (c1 _).mono ?_
  rintro e u1 ⟨rfl, hb1⟩
  replace ra := row_up (o := .cells (cs s) 42) (row_below ra hb1)
  replace rr := row_up (o := .cells (cs s) 42) (row_below rr hb1)
  have hw := below_up (bnext (below2 _ _ _) hb1) (.cells (cs s) 42)
  have rs := row_new u1 (.cells (cs s) 42)
  clear hb1 c1
  go_wp2_with (refine wpList_load_agg rfl 42 (.tmp 3) rfl u1.heap.size _ _ rfl Tryd.underlying42 rfl (by kernel_rfl) rs ?_)
  refine (c2 _).mono ?_
  rintro e u2 ⟨rfl, hb2⟩
  replace ra := row_up (o := .cells (cs f) 42) (row_below ra hb2)
  replace rr := row_up (o := .cells (cs f) 42) (row_below rr hb2)
  replace rs := row_up (o := .cells (cs f) 42) (row_below rs hb2)
  replace hw := below_up (bnext hw hb2) (.cells (cs f) 42)
  have rf := row_new u2 (.cells (cs f) 42)
  clear hb2 c2
  go_wp2_with fail
  generalize (u2.alloc (.cells (cs f) 42)) = U at *
  generalize u1.heap.size = ps at *
  generalize u2.heap.size = pf at *
  refine wp_region_inv (by kernel_rfl) (acyc_of (by kernel_rfl)) (fun D a wr => ∃ v5 v13 v14 v15 v16 v17 v18 v19 : Value, a = { tmps := #[el x, .pointer (some ⟨w.heap.size, 0, none⟩), .pointer (some ⟨w.heap.size + 1, 0, none⟩), .pointer (some ⟨ps, 0, none⟩), .pointer (some ⟨pf, 0, none⟩), v5, undef, el x, el x, el s, el s, el s, el f, v13, v14, v15, v16, v17, v18, v19, undef, undef, undef, undef, undef], defers := [] } ∧ (D 0 = true → v13 = el f) ∧ (D 1 = true → v14 = el f) ∧ (D 2 = true → v15 = el (tm f f)) ∧ (D 3 = true → v16 = el s) ∧ (D 4 = true → v17 = el (tm (tm f f) s)) ∧ (D 5 = true → v18 = el x) ∧ (D 6 = true → v19 = el (tm (tm (tm f f) s) x)) ∧ (D 8 = true → D 7 = true) ∧ Below U.heap.size U wr ∧ (D 7 = true → ∃ p : Nat, v5 = .pointer (some ⟨p, 0, none⟩) ∧ U.heap.size ≤ p ∧ ∃ c : Array Value, wr.heap[p]? = some (.cells c 42 (0, 0)) ∧ c.size = 4 ∧ (D 8 = true → c = (cs (tm (tm (tm f f) s) x))))) ?_ ?_ ?_
  · exact ⟨undef, undef, undef, undef, undef, undef, undef, undef, rfl, by simp, by simp, by simp, by simp, by simp, by simp, by simp, by simp, (Below.refl _ _).drew, by simp⟩
  · intro D a wr hinv i o ho hD hdep K hK
    obtain ⟨v5, v13, v14, v15, v16, v17, v18, v19, rfl, h0, h1, h2, h3, h4, h5, h6, h8, hb, h7⟩ := hinv
    have hi : i < 9 := (Array.getElem?_eq_some_iff.1 ho).1
    obtain rfl | rfl | rfl | rfl | rfl | rfl | rfl | rfl | rfl : i = 0 ∨ i = 1 ∨ i = 2 ∨ i = 3 ∨ i = 4 ∨ i = 5 ∨ i = 6 ∨ i = 7 ∨ i = 8 := by omega
    · cases ho
      refine ⟨rfl, oper_load 42 (.tmp 4) rfl pf (cs f) _ rfl Tryd.underlying42 rfl (by kernel_rfl) (row_below rf hb) (hK _ _ ⟨v5, el f, v14, v15, v16, v17, v18, v19, rfl, fun _ => rfl, fun h => h1 (by simpa using h), fun h => h2 (by simpa using h), fun h => h3 (by simpa using h), fun h => h4 (by simpa using h), fun h => h5 (by simpa using h), fun h => h6 (by simpa using h), fun h => by have := h8 (by simpa using h); simpa using this, hb, fun h => by
        obtain ⟨p, e1, e2, c, e3, e4, e5⟩ := h7 (by simpa using h)
        exact ⟨p, e1, e2, c, e3, e4, fun h => e5 (by simpa using h)⟩⟩)⟩
    · cases ho
      refine ⟨rfl, oper_load 42 (.tmp 4) rfl pf (cs f) _ rfl Tryd.underlying42 rfl (by kernel_rfl) (row_below rf hb) (hK _ _ ⟨v5, v13, el f, v15, v16, v17, v18, v19, rfl, fun h => h0 (by simpa using h), fun _ => rfl, fun h => h2 (by simpa using h), fun h => h3 (by simpa using h), fun h => h4 (by simpa using h), fun h => h5 (by simpa using h), fun h => h6 (by simpa using h), fun h => by have := h8 (by simpa using h); simpa using this, hb, fun h => by
        obtain ⟨p, e1, e2, c, e3, e4, e5⟩ := h7 (by simpa using h)
        exact ⟨p, e1, e2, c, e3, e4, fun h => e5 (by simpa using h)⟩⟩)⟩
    · cases ho
      have d0 := h0 (hdep { on := 0, ground := .data } (by simp) rfl)
      subst d0
      have d1 := h1 (hdep { on := 1, ground := .data } (by simp) rfl)
      subst d1
      refine ⟨rfl, oper_call 56 #[.tmp 13, .tmp 14] _ rfl #[el f, el f] (by simp only [List.map_toArray, List.map_cons, List.map_nil]; rfl) (fun w => by kernel_rfl) (ctm f f hf hf _) (fun w' hb' => hK _ _ ⟨v5, (el f), (el f), el (tm f f), v16, v17, v18, v19, rfl, fun _ => rfl, fun _ => rfl, fun _ => rfl, fun h => h3 (by simpa using h), fun h => h4 (by simpa using h), fun h => h5 (by simpa using h), fun h => h6 (by simpa using h), fun h => by have := h8 (by simpa using h); simpa using this, bnext hb hb', fun h => by
        obtain ⟨p, e1, e2, c, e3, e4, e5⟩ := h7 (by simpa using h)
        exact ⟨p, e1, e2, c, row_below e3 hb', e4, fun h => e5 (by simpa using h)⟩⟩)⟩
    · cases ho
      refine ⟨rfl, oper_load 42 (.tmp 3) rfl ps (cs s) _ rfl Tryd.underlying42 rfl (by kernel_rfl) (row_below rs hb) (hK _ _ ⟨v5, v13, v14, v15, el s, v17, v18, v19, rfl, fun h => h0 (by simpa using h), fun h => h1 (by simpa using h), fun h => h2 (by simpa using h), fun _ => rfl, fun h => h4 (by simpa using h), fun h => h5 (by simpa using h), fun h => h6 (by simpa using h), fun h => by have := h8 (by simpa using h); simpa using this, hb, fun h => by
        obtain ⟨p, e1, e2, c, e3, e4, e5⟩ := h7 (by simpa using h)
        exact ⟨p, e1, e2, c, e3, e4, fun h => e5 (by simpa using h)⟩⟩)⟩
    · cases ho
      have d2 := h2 (hdep { on := 2, ground := .data } (by simp) rfl)
      subst d2
      have d3 := h3 (hdep { on := 3, ground := .data } (by simp) rfl)
      subst d3
      refine ⟨rfl, oper_call 56 #[.tmp 15, .tmp 16] _ rfl #[el (tm f f), el s] (by simp only [List.map_toArray, List.map_cons, List.map_nil]; rfl) (fun w => by kernel_rfl) (ctm (tm f f) s hg hs _) (fun w' hb' => hK _ _ ⟨v5, v13, v14, (el (tm f f)), (el s), el (tm (tm f f) s), v18, v19, rfl, fun h => h0 (by simpa using h), fun h => h1 (by simpa using h), fun _ => rfl, fun _ => rfl, fun _ => rfl, fun h => h5 (by simpa using h), fun h => h6 (by simpa using h), fun h => by have := h8 (by simpa using h); simpa using this, bnext hb hb', fun h => by
        obtain ⟨p, e1, e2, c, e3, e4, e5⟩ := h7 (by simpa using h)
        exact ⟨p, e1, e2, c, row_below e3 hb', e4, fun h => e5 (by simpa using h)⟩⟩)⟩
    · cases ho
      refine ⟨rfl, oper_load 42 (.tmp 1) rfl w.heap.size (cs x) _ rfl Tryd.underlying42 rfl (by kernel_rfl) (row_below ra hb) (hK _ _ ⟨v5, v13, v14, v15, v16, v17, el x, v19, rfl, fun h => h0 (by simpa using h), fun h => h1 (by simpa using h), fun h => h2 (by simpa using h), fun h => h3 (by simpa using h), fun h => h4 (by simpa using h), fun _ => rfl, fun h => h6 (by simpa using h), fun h => by have := h8 (by simpa using h); simpa using this, hb, fun h => by
        obtain ⟨p, e1, e2, c, e3, e4, e5⟩ := h7 (by simpa using h)
        exact ⟨p, e1, e2, c, e3, e4, fun h => e5 (by simpa using h)⟩⟩)⟩
    · cases ho
      have d4 := h4 (hdep { on := 4, ground := .data } (by simp) rfl)
      subst d4
      have d5 := h5 (hdep { on := 5, ground := .data } (by simp) rfl)
      subst d5
      refine ⟨rfl, oper_call 56 #[.tmp 17, .tmp 18] _ rfl #[el (tm (tm f f) s), el x] (by simp only [List.map_toArray, List.map_cons, List.map_nil]; rfl) (fun w => by kernel_rfl) (ctm (tm (tm f f) s) x hh hx _) (fun w' hb' => hK _ _ ⟨v5, v13, v14, v15, v16, (el (tm (tm f f) s)), (el x), el (tm (tm (tm f f) s) x), rfl, fun h => h0 (by simpa using h), fun h => h1 (by simpa using h), fun h => h2 (by simpa using h), fun h => h3 (by simpa using h), fun _ => rfl, fun _ => rfl, fun _ => rfl, fun h => by have := h8 (by simpa using h); simpa using this, bnext hb hb', fun h => by
        obtain ⟨p, e1, e2, c, e3, e4, e5⟩ := h7 (by simpa using h)
        exact ⟨p, e1, e2, c, row_below e3 hb', e4, fun h => e5 (by simpa using h)⟩⟩)⟩
    · cases ho
      refine ⟨rfl, oper_alloc 42 rfl (.pointer (some ⟨wr.heap.size, 0, none⟩)) (by simp [go_sem]; rfl) (hK _ _ ⟨.pointer (some ⟨wr.heap.size, 0, none⟩), v13, v14, v15, v16, v17, v18, v19, rfl, fun h => h0 (by simpa using h), fun h => h1 (by simpa using h), fun h => h2 (by simpa using h), fun h => h3 (by simpa using h), fun h => h4 (by simpa using h), fun h => h5 (by simpa using h), fun h => h6 (by simpa using h), fun _ => rfl, bnext hb (below1 _ _), fun _ => ⟨wr.heap.size, rfl, hb.size, _, row_new _ _, rfl, fun h => absurd (h8 (by simpa using h)) (by simp [hD])⟩⟩)⟩
    · cases ho
      have d7 := hdep { on := 7, ground := .data } (by simp) rfl
      have d6 := h6 (hdep { on := 6, ground := .data } (by simp) rfl)
      subst d6
      obtain ⟨p, rfl, e2, c, e3, e4, e5⟩ := h7 d7
      refine ⟨rfl, oper_store 42 (.tmp 5) (.tmp 19) rfl p (cs (tm (tm (tm f f) s) x)) c _ rfl rfl (by kernel_rfl) e3 e4 (cs_one _) (hK _ _ ⟨_, v13, v14, v15, v16, v17, v18, _, rfl, fun h => h0 (by simpa using h), fun h => h1 (by simpa using h), fun h => h2 (by simpa using h), fun h => h3 (by simpa using h), fun h => h4 (by simpa using h), fun h => h5 (by simpa using h), fun _ => rfl, fun _ => by simpa using d7, below_setRow hb e2 _, fun _ => ⟨p, rfl, e2, _, setRow_heap _ _ _ _ _ _ e3, rfl, fun _ => rfl⟩⟩)⟩
  · intro D a wr hinv hall
    obtain ⟨v5, v13, v14, v15, v16, v17, v18, v19, rfl, h0, h1, h2, h3, h4, h5, h6, h8, hb, h7⟩ := hinv
    have a0 := h0 (hall 0 (by simp)); have a1 := h1 (hall 1 (by simp)); have a2 := h2 (hall 2 (by simp)); have a3 := h3 (hall 3 (by simp)); have a4 := h4 (hall 4 (by simp)); have a5 := h5 (hall 5 (by simp)); have a6 := h6 (hall 6 (by simp))
    obtain ⟨p, a7, e2, c, e3, e4, e5⟩ := h7 (hall 7 (by simp))
    have e6 := e5 (hall 8 (by simp))
    subst a0 a1 a2 a3 a4 a5 a6 a7 e6
    clear h0 h1 h2 h3 h4 h5 h6 h7 h8 hall e4 e5 ctm
    replace ra := row_below ra hb
    replace rr := row_below rr hb
    have rr0 := rr
    replace hw := bnext hw hb
    clear rs rf
    go_wp2_with (refine wpList_load_agg rfl 42 (.tmp 1) rfl w.heap.size _ _ rfl Tryd.underlying42 rfl (by kernel_rfl) ra ?_)
    refine (ones_any x hx _).mono ?_
    rintro e u4 ⟨z, E, b, hz, hE, ez, rfl, hbz, hb4, rb⟩
    have rp := row_below e3 hb4
    replace rr := row_below rr hb4
    have lp := row_lt e3
    have lr := hw.size
    clear e3 ra
    go_wp2_with (refine wpList_load_agg rfl 42 (.tmp 5) rfl p _ _ rfl Tryd.underlying42 rfl (by kernel_rfl) rp ?_)
    refine (grow_any 5 b (by omega) z _ hz hl _ _ rb).mono ?_
    rintro e u5 ⟨y, hy, ey, rfl, hm, rb5⟩
    have hlt := row_lt rr
    have nb : w.heap.size + 1 ≠ b := by
      intro h
      have := row_lt rr0
      omega
    replace rr := row_mod rr hm nb
    go_wp2_with (refine wpList_store_row rfl 42 (.tmp 2) (.tmp 24) rfl (w.heap.size + 1) (cs y) _ _ rfl rfl (by kernel_rfl) rr rfl (cs_one y) rfl ?_)
    have hlast : Below w.heap.size w u5 := below_mod (bnext hw hb4) hm (Nat.le_trans hw.size hbz)
    obtain ⟨k, hk1, hk2⟩ := inv_pow hE.out ez.out es.out ef.out eg.out eh.out e11.out ey.out hx.2
    exact bodyPost_ret (v := el y) (results_agg rfl _ rfl Tryd.underlying42 rfl (by kernel_rfl) (setRow_heap _ _ _ _ _ _ rr)) rfl ⟨y, k, hy, hide1 hk1, hide1 hk2, rfl, below_setRow hlast (by omega) _⟩
end Go.Proofs.YtgojlikjcpnhjaaDoor

namespace Go.Proofs.YtgojlikjcpnhjaaDoor
open Go.RowKit

/-- The byte number i of four words. -/
def byt (x : Nat → Nat) (i : Nat) : Nat := x (i / 8) / 256 ^ (i % 8) % 256
/-- Bytes, so many of them laid. -/
def kf (x : Nat → Nat) (k j : Nat) : Value := if j < k then .int .u8 (byt x j) else .int .u8 0

theorem byt_int {x : Nat → Nat} {k j m : Nat} (hj : k / 8 = j) (hm : m = k % 8) : ((x j : Nat) : Int) / 2 ^ (m * 8) % 256 = ((byt x k : Nat) : Int) := by
  unfold byt
  rw [hj, ← hm, show (256 : Nat) = 2 ^ 8 from rfl, ← Nat.pow_mul, Nat.mul_comm 8 m]
  simp

theorem kf_next (x : Nat → Nat) (k : Nat) : arr 32 (upd (kf x k) k (.int .u8 (byt x k))) = arr 32 (kf x (k + 1)) := by
  refine arr_congr fun i _ => ?_
  unfold upd kf
  by_cases h : i = k
  · subst h; simp
  · have : (i < k + 1) = (i < k) := by simp; omega
    simp [h, this]

set_option maxHeartbeats 1000000 in
theorem key_any (x : Nat → Nat) (hx : Ok x) (w : World) :
    Calls Tryd.prog 28 #[el x] w fun e w' => e = .returned (.agg (arr 32 fun i => .int .u8 (byt x i))) ∧ Below w.heap.size w w' := by
  have x0 := hx.1 0; have x1 := hx.1 1; have x2 := hx.1 2; have x3 := hx.1 3
  have hA1 := @arr_get; have hA2 := @arr_set
  go_enter Tryd.func28, Tryd.ntmps28
  go_wp2
  go_loopw [5] (fun i wr => ∃ k : Nat, k ≤ 32 ∧ i = .int .i64 k ∧ ∃ z, z = arr 32 (fun _ => .int .u8 0) ∧ wr = ((w.alloc (.cells #[.int .u64 (x 0), .int .u64 (x 1), .int .u64 (x 2), .int .u64 (x 3)] 42)).alloc (.cells z 23)).alloc (.cells (arr 32 (kf x k)) 23)) (fun i _ => 32 - (intOf i).toNat)
  case atStart =>
    refine ⟨0, by omega, rfl, _, rfl, ?_⟩
    rw [arr_rep (f := kf x 0) (v := .int .u8 0) (fun i _ => by simp [kf]), arr_rep (v := .int .u8 0) (fun i _ => rfl)]; rfl
  case round =>
    obtain ⟨k, hk, rfl, z, rfl, rfl⟩ := hrel
    by_cases hlt : k < 32
    · have hk2 : (k : Int) < 32 := by omega
      obtain ⟨m, hm⟩ : ∃ m, Hid (m = k % 8) := ⟨_, hide1 rfl⟩
      by_cases h0 : k < 8
      · have q0 : (k : Int) / 8 = 0 := by omega
        have q1 : (k : Int) % 8 = (m : Int) := by have := hm.out; omega
        have q2 : m < 8 := by have := hm.out; omega
        have q3 : (x 0 : Int) / 2 ^ (m * 8) % 256 = ((byt x k : Nat) : Int) := byt_int (by omega) hm.out
        go_wp2
        go_roundw
        case rel => exact ⟨k + 1, by omega, by go_num, _, rfl, by rw [kf_next]⟩
        case measure => simp [intOf]; omega
      by_cases h1 : k < 16
      · have q0 : (k : Int) / 8 = 1 := by omega
        have q1 : (k : Int) % 8 = (m : Int) := by have := hm.out; omega
        have q2 : m < 8 := by have := hm.out; omega
        have q3 : (x 1 : Int) / 2 ^ (m * 8) % 256 = ((byt x k : Nat) : Int) := byt_int (by omega) hm.out
        go_wp2
        go_roundw
        case rel => exact ⟨k + 1, by omega, by go_num, _, rfl, by rw [kf_next]⟩
        case measure => simp [intOf]; omega
      by_cases h2 : k < 24
      · have q0 : (k : Int) / 8 = 2 := by omega
        have q1 : (k : Int) % 8 = (m : Int) := by have := hm.out; omega
        have q2 : m < 8 := by have := hm.out; omega
        have q3 : (x 2 : Int) / 2 ^ (m * 8) % 256 = ((byt x k : Nat) : Int) := byt_int (by omega) hm.out
        go_wp2
        go_roundw
        case rel => exact ⟨k + 1, by omega, by go_num, _, rfl, by rw [kf_next]⟩
        case measure => simp [intOf]; omega
      · have q0 : (k : Int) / 8 = 3 := by omega
        have q1 : (k : Int) % 8 = (m : Int) := by have := hm.out; omega
        have q2 : m < 8 := by have := hm.out; omega
        have q3 : (x 3 : Int) / 2 ^ (m * 8) % 256 = ((byt x k : Nat) : Int) := byt_int (by omega) hm.out
        go_wp2
        go_roundw
        case rel => exact ⟨k + 1, by omega, by go_num, _, rfl, by rw [kf_next]⟩
        case measure => simp [intOf]; omega
    · obtain rfl : k = 32 := by omega
      rw [arr_congr (n := 32) (f := kf x 32) (g := fun i => .int .u8 (byt x i)) (fun i hi => by simp [kf, hi])]
      go_wp2_with (first
        | (refine wpList_load_row rfl 23 (.tmp 3) rfl (w.heap.size + 1 + 1) _ _ rfl Tryd.underlying23 (by rw [arr_size]; kernel_rfl) (row3_2 _ _ _ _) ?_)
        | (refine wpList_store_row rfl 23 (.tmp 2) (.tmp 21) rfl (w.heap.size + 1) _ _ _ rfl rfl (by rw [arr_size]; kernel_rfl) (row3_1 _ _ _ _) (by simp [arr_size]) arr_one rfl ?_))
      exact bodyPost_ret (v := .agg (arr 32 fun i => .int .u8 (byt x i))) (results_row rfl _ rfl Tryd.underlying23 (by rw [arr_size]; kernel_rfl) (setRow_heap _ _ _ _ _ _ (row3_1 _ _ _ _))) rfl ⟨rfl, below_setRow (below3 _ _ _ _) (by omega) _⟩
end Go.Proofs.YtgojlikjcpnhjaaDoor

namespace Go.Proofs.YtgojlikjcpnhjaaDoor
open Go.RowKit

/-- Word number j of the first k bytes. -/
def rd (b : Nat → Nat) : Nat → Nat → Nat
  | 0, _ => 0
  | k + 1, j => if k / 8 = j then rd b k j + b k * 256 ^ (k % 8) else rd b k j

theorem rd_ne {b : Nat → Nat} {k j : Nat} (h : ¬ k / 8 = j) : rd b (k + 1) j = rd b k j := by rw [rd, if_neg h]

theorem rd_lt {b : Nat → Nat} (hb : ∀ i, b i < 256) : ∀ k j, rd b k j < 256 ^ (if k / 8 = j then k % 8 else if k / 8 < j then 0 else 8) := by
  intro k
  induction k with
  | zero => intro j; simp only [rd]; exact Nat.pow_pos (by omega)
  | succ k ih =>
    intro j
    have h := ih j
    by_cases e : k / 8 = j
    · rw [rd, if_pos e]
      rw [if_pos e] at h
      have h1 : (256 : Nat) ^ (k % 8 + 1) = 256 ^ (k % 8) * 256 := Nat.pow_succ 256 (k % 8)
      have h2 : (b k + 1) * 256 ^ (k % 8) ≤ 256 * 256 ^ (k % 8) := Nat.mul_le_mul_right _ (hb k)
      have h3 : (b k + 1) * 256 ^ (k % 8) = b k * 256 ^ (k % 8) + 256 ^ (k % 8) := by rw [Nat.add_mul, Nat.one_mul]
      have h4 : rd b k j + b k * 256 ^ (k % 8) < 256 ^ (k % 8 + 1) := by rw [h1, Nat.mul_comm _ 256]; omega
      by_cases e2 : (k + 1) / 8 = j
      · rw [if_pos e2, show (k + 1) % 8 = k % 8 + 1 by omega]; exact h4
      · rw [if_neg e2, if_neg (by omega)]
        have e7 : k % 8 = 7 := by omega
        rw [e7] at h4 ⊢
        exact h4
    · rw [rd_ne e]
      rw [if_neg e] at h
      by_cases e2 : (k + 1) / 8 = j
      · rw [if_pos e2, show (k + 1) % 8 = 0 by omega]
        rw [if_pos (by omega)] at h; exact h
      · rw [if_neg e2]
        by_cases e3 : k / 8 < j
        · rw [if_pos (by omega)]; rw [if_pos e3] at h; exact h
        · rw [if_neg (by omega)]; rw [if_neg e3] at h; exact h

theorem rd_word {b : Nat → Nat} (hb : ∀ i, b i < 256) (k j : Nat) : rd b k j < 18446744073709551616 := by
  have h := rd_lt hb k j
  have : (256 : Nat) ^ (if k / 8 = j then k % 8 else if k / 8 < j then 0 else 8) ≤ 256 ^ 8 := Nat.pow_le_pow_right (by omega) (by split <;> (try split) <;> omega)
  exact Nat.lt_of_lt_of_le h this

theorem rd_or {b : Nat → Nat} (hb : ∀ i, b i < 256) {k j m : Nat} (hj : k / 8 = j) (hm : m = k % 8) :
    bits .or .u64 ((rd b k j : Nat) : Int) (IntKind.u64.wrap (((b k : Nat) : Int) * 2 ^ (m * 8))) = ((rd b (k + 1) j : Nat) : Int) := by
  have h1 := rd_lt hb k j
  rw [if_pos hj, ← hm] at h1
  have hw := rd_word hb (k + 1) j
  have e : rd b (k + 1) j = rd b k j + b k * 256 ^ m := by rw [rd, if_pos hj, hm]
  have e2 : (256 : Nat) ^ m = 2 ^ (m * 8) := by rw [show (256 : Nat) = 2 ^ 8 from rfl, ← Nat.pow_mul, Nat.mul_comm]
  rw [e2] at h1 e
  have hv : b k * 2 ^ (m * 8) < 18446744073709551616 := by omega
  have e3 : IntKind.u64.wrap (((b k : Nat) : Int) * 2 ^ (m * 8)) = ((b k * 2 ^ (m * 8) : Nat) : Int) := by
    rw [show (((b k : Nat) : Int) * 2 ^ (m * 8)) = ((b k * 2 ^ (m * 8) : Nat) : Int) by simp]
    exact wrapN _ hv
  rw [e3, u64_or_nat _ _ (rd_word hb k j) hv, e]
  congr 1
  have := Nat.two_pow_add_eq_or_of_lt h1 (b k)
  rw [Nat.or_comm, Nat.mul_comm (b k), ← this, Nat.add_comm]

theorem index_key (f : Nat → Value) (k : Nat) (hk : k < 32) (w : World) : (Instr.index 23 (.agg (arr 32 f)) (.int .i64 k)).run Tryd.prog w = .ok (f k) w := by
  simp [Instr.index, go_sem, arr_get, hk]

set_option maxHeartbeats 1000000 in
theorem read_any (b : Nat → Nat) (hb : ∀ i, b i < 256) (w : World) :
    Calls Tryd.prog 54 #[.agg (arr 32 fun i => .int .u8 (b i))] w fun e w' => e = .returned (wv (rd b 32 0) (rd b 32 1) (rd b 32 2) (rd b 32 3)) ∧ Below w.heap.size w w' := by
  have hsd := @set_drewN
  obtain ⟨R, HR⟩ : ∃ R : Nat → Nat → Nat, Hid (R = rd b) := ⟨_, hide1 rfl⟩
  rw [← HR.out]
  have hR0 : ∀ j, R 0 j = 0 := fun j => by rw [HR.out]; rfl
  go_enter Tryd.func54, Tryd.ntmps54
  go_wp2_with (refine wpList_load_row rfl 23 (.tmp 1) rfl w.heap.size _ _ rfl Tryd.underlying23 (by rw [arr_size]; kernel_rfl) (row3_0 _ _ _ _) ?_)
  go_loopw [7] (fun i wr => ∃ k n : Nat, k ≤ 32 ∧ i = .int .i64 k ∧ wr = (((w.alloc (.cells (arr 32 fun i => .int .u8 (b i)) 23)).alloc (.cells #[.int .u64 0, .int .u64 0, .int .u64 0, .int .u64 0] 40)).alloc (.cells #[.int .u64 (R k 0), .int .u64 (R k 1), .int .u64 (R k 2), .int .u64 (R k 3)] 40)).drewN n) (fun i _ => 32 - (intOf i).toNat)
  case atStart => exact ⟨0, 0, by omega, rfl, by simp only [hR0]; rfl⟩
  case round =>
    obtain ⟨k, n, hk, rfl, rfl⟩ := hrel
    by_cases hlt : k < 32
    · have hk2 : (k : Int) < 32 := by omega
      have hin := index_key (fun i => .int .u8 (b i)) k hlt
      have hbk := hb k
      obtain ⟨m, hm⟩ : ∃ m, Hid (m = k % 8) := ⟨_, hide1 rfl⟩
      have q1 : (k : Int) % 8 = (m : Int) := by have := hm.out; omega
      have q2 : m < 8 := by have := hm.out; omega
      by_cases h0 : k < 8
      · have q0 : (k : Int) / 8 = 0 := by omega
        have q3 := rd_or hb (k := k) (j := 0) (by omega) hm.out
        have w0 := rd_word hb k 0
        rw [← HR.out] at q3 w0
        go_wp2
        go_region
        go_wp2
        go_roundw
        case rel => exact ⟨k + 1, n + 1, by omega, by go_num, by rw [show R (k + 1) 1 = R k 1 by rw [HR.out]; exact rd_ne (by omega), show R (k + 1) 2 = R k 2 by rw [HR.out]; exact rd_ne (by omega), show R (k + 1) 3 = R k 3 by rw [HR.out]; exact rd_ne (by omega)]⟩
        case measure => simp [intOf]; omega
      by_cases h1 : k < 16
      · have q0 : (k : Int) / 8 = 1 := by omega
        have q3 := rd_or hb (k := k) (j := 1) (by omega) hm.out
        have w0 := rd_word hb k 1
        rw [← HR.out] at q3 w0
        go_wp2
        go_region
        go_wp2
        go_roundw
        case rel => exact ⟨k + 1, n + 1, by omega, by go_num, by rw [show R (k + 1) 0 = R k 0 by rw [HR.out]; exact rd_ne (by omega), show R (k + 1) 2 = R k 2 by rw [HR.out]; exact rd_ne (by omega), show R (k + 1) 3 = R k 3 by rw [HR.out]; exact rd_ne (by omega)]⟩
        case measure => simp [intOf]; omega
      by_cases h2 : k < 24
      · have q0 : (k : Int) / 8 = 2 := by omega
        have q3 := rd_or hb (k := k) (j := 2) (by omega) hm.out
        have w0 := rd_word hb k 2
        rw [← HR.out] at q3 w0
        go_wp2
        go_region
        go_wp2
        go_roundw
        case rel => exact ⟨k + 1, n + 1, by omega, by go_num, by rw [show R (k + 1) 0 = R k 0 by rw [HR.out]; exact rd_ne (by omega), show R (k + 1) 1 = R k 1 by rw [HR.out]; exact rd_ne (by omega), show R (k + 1) 3 = R k 3 by rw [HR.out]; exact rd_ne (by omega)]⟩
        case measure => simp [intOf]; omega
      · have q0 : (k : Int) / 8 = 3 := by omega
        have q3 := rd_or hb (k := k) (j := 3) (by omega) hm.out
        have w0 := rd_word hb k 3
        rw [← HR.out] at q3 w0
        go_wp2
        go_region
        go_wp2
        go_roundw
        case rel => exact ⟨k + 1, n + 1, by omega, by go_num, by rw [show R (k + 1) 0 = R k 0 by rw [HR.out]; exact rd_ne (by omega), show R (k + 1) 1 = R k 1 by rw [HR.out]; exact rd_ne (by omega), show R (k + 1) 2 = R k 2 by rw [HR.out]; exact rd_ne (by omega)]⟩
        case measure => simp [intOf]; omega
    · obtain rfl : k = 32 := by omega
      go_wp2
      exact bodyPost_ret (v := wv (R 32 0) (R 32 1) (R 32 2) (R 32 3)) (by simp [results, Tryd.results54, go_sem]) rfl ⟨rfl, below_drewN (below3 _ _ _ _) n⟩
end Go.Proofs.YtgojlikjcpnhjaaDoor

namespace Go.Proofs.YtgojlikjcpnhjaaDoor
open Go.RowKit

/-- The number of the first k bytes. -/
def nb (b : Nat → Nat) : Nat → Nat
  | 0 => 0
  | k + 1 => nb b k + b k * 256 ^ k

theorem nb_lt {b : Nat → Nat} (hb : ∀ i, b i < 256) : ∀ k, nb b k < 256 ^ k := by
  intro k
  induction k with
  | zero => simp [nb]
  | succ k ih =>
    have h2 : (b k + 1) * 256 ^ k ≤ 256 * 256 ^ k := Nat.mul_le_mul_right _ (hb k)
    have h3 : (b k + 1) * 256 ^ k = b k * 256 ^ k + 256 ^ k := by rw [Nat.add_mul, Nat.one_mul]
    rw [nb, Nat.pow_succ, Nat.mul_comm _ 256]
    omega

theorem rd_nb (b : Nat → Nat) : ∀ k, k ≤ 32 → num (rd b k 0) (rd b k 1) (rd b k 2) (rd b k 3) = nb b k := by
  intro k
  induction k with
  | zero => intro _; rfl
  | succ k ih =>
    intro h
    have ih := ih (by omega)
    rw [nb, ← ih]
    have hp : (256 : Nat) ^ k = 256 ^ (8 * (k / 8)) * 256 ^ (k % 8) := by rw [← Nat.pow_add, Nat.div_add_mod]
    have hm : b k * 256 ^ k = 256 ^ (8 * (k / 8)) * (b k * 256 ^ (k % 8)) := by rw [hp, Nat.mul_left_comm]
    rw [hm]
    have c : k / 8 = 0 ∨ k / 8 = 1 ∨ k / 8 = 2 ∨ k / 8 = 3 := by omega
    rcases c with c | c | c | c
    · have r0 : rd b (k + 1) 0 = rd b k 0 + b k * 256 ^ (k % 8) := by rw [rd, if_pos c]
      have r1 : rd b (k + 1) 1 = rd b k 1 := rd_ne (by omega)
      have r2 : rd b (k + 1) 2 = rd b k 2 := rd_ne (by omega)
      have r3 : rd b (k + 1) 3 = rd b k 3 := rd_ne (by omega)
      rw [r0, r1, r2, r3, c]
      generalize b k * 256 ^ (k % 8) = v
      simp only [Nat.reduceMul, Nat.reducePow]
      unfold num
      omega
    · have r0 : rd b (k + 1) 0 = rd b k 0 := rd_ne (by omega)
      have r1 : rd b (k + 1) 1 = rd b k 1 + b k * 256 ^ (k % 8) := by rw [rd, if_pos c]
      have r2 : rd b (k + 1) 2 = rd b k 2 := rd_ne (by omega)
      have r3 : rd b (k + 1) 3 = rd b k 3 := rd_ne (by omega)
      rw [r0, r1, r2, r3, c]
      generalize b k * 256 ^ (k % 8) = v
      simp only [Nat.reduceMul, Nat.reducePow]
      unfold num
      omega
    · have r0 : rd b (k + 1) 0 = rd b k 0 := rd_ne (by omega)
      have r1 : rd b (k + 1) 1 = rd b k 1 := rd_ne (by omega)
      have r2 : rd b (k + 1) 2 = rd b k 2 + b k * 256 ^ (k % 8) := by rw [rd, if_pos c]
      have r3 : rd b (k + 1) 3 = rd b k 3 := rd_ne (by omega)
      rw [r0, r1, r2, r3, c]
      generalize b k * 256 ^ (k % 8) = v
      simp only [Nat.reduceMul, Nat.reducePow]
      unfold num
      omega
    · have r0 : rd b (k + 1) 0 = rd b k 0 := rd_ne (by omega)
      have r1 : rd b (k + 1) 1 = rd b k 1 := rd_ne (by omega)
      have r2 : rd b (k + 1) 2 = rd b k 2 := rd_ne (by omega)
      have r3 : rd b (k + 1) 3 = rd b k 3 + b k * 256 ^ (k % 8) := by rw [rd, if_pos c]
      rw [r0, r1, r2, r3, c]
      generalize b k * 256 ^ (k % 8) = v
      simp only [Nat.reduceMul, Nat.reducePow]
      unfold num
      omega

set_option maxHeartbeats 1000000 in
theorem of_any (b : Nat → Nat) (hb : ∀ i, b i < 256) :
    ∃ x : Nat → Nat, Ok x ∧ Hid (nm x = nb b 32 % 57896044618658097711785492504343953926634992332820282019728792003956564819968 % pp) ∧
    ∀ w, Calls Tryd.prog 27 #[.agg (arr 32 fun i => .int .u8 (b i))] w fun e w' => e = .returned (el x) ∧ Below w.heap.size w w' := by
  have c0 := read_any b hb
  have hn := rd_nb b 32 (by omega)
  have b0 := rd_word hb 32 0; have b1 := rd_word hb 32 1; have b2 := rd_word hb 32 2; have b3 := rd_word hb 32 3
  generalize rd b 32 0 = r0 at *
  generalize rd b 32 1 = r1 at *
  generalize rd b 32 2 = r2 at *
  generalize rd b 32 3 = r3 at *
  have c1 := low_any r0 r1 r2 r3 b3
  obtain ⟨s, hs⟩ : ∃ s, Hid (s = r3 % 9223372036854775808) := ⟨_, hide1 rfl⟩
  rw [← hs.out] at c1
  obtain ⟨x, hx, e2, c2⟩ := settle_any r0 r1 r2 s 0 b0 b1 b2 (by have := hs.out; omega) (by omega)
  refine ⟨x, hx, hide1 ?_, fun w => ?_⟩
  · rw [e2.out, ← hn]
    have := hs.out
    congr 1
    unfold num
    omega
  clear e2 hs hx hn
  have c2' : ∀ w, Calls Tryd.prog 53 #[wv r0 r1 r2 s, .int .u64 0] w fun e w' => e = .returned (el x) ∧ Below w.heap.size w w' := c2
  clear c2
  have hA1 := @aft_cell; have hA2 := @aft_frozen; have hA3 := @aft_set
  go_enter Tryd.func27, Tryd.ntmps27
  go_wp2_with (refine wpList_load_row rfl 23 (.tmp 1) rfl w.heap.size _ _ rfl Tryd.underlying23 (by rw [arr_size]; kernel_rfl) (row2_0 _ _ _) ?_)
  refine (c0 _).mono ?_
  rintro e w1 ⟨rfl, hb1⟩
  go_wp2_with fail
  refine (c1 _).mono ?_
  rintro e w2 ⟨rfl, hb2⟩
  go_wp2_with fail
  refine (c2' _).mono ?_
  rintro e w3 ⟨rfl, hb3⟩
  obtain ⟨g, rfl⟩ := aft_of (bnext (bnext hb1 hb2) hb3)
  clear hb1 hb2 hb3 c0 c1 c2'
  go_wp2_with fail
  exact bodyPost_ret (v := el x) (by simp [results, Tryd.results27, go_sem, hA1]) rfl ⟨rfl, bnext (below2 _ _ _) (aft_below _ _)⟩

end Go.Proofs.YtgojlikjcpnhjaaDoor

namespace Go.Proofs.YtgojlikjcpnhjaaDoor

/-- A prime. -/
def Prm (p : Nat) : Prop := 1 < p ∧ ∀ d, d ∣ p → d = 1 ∨ d = p

theorem Prm.cop {p a : Nat} (h : Prm p) (ha : ¬ p ∣ a) : Nat.gcd p a = 1 := by
  rcases h.2 _ (Nat.gcd_dvd_left p a) with e | e
  · exact e
  · exfalso; apply ha
    have := Nat.gcd_dvd_right p a
    rwa [e] at this

theorem Prm.euclid {p a b : Nat} (h : Prm p) (hab : p ∣ a * b) : p ∣ a ∨ p ∣ b := by
  by_cases ha : p ∣ a
  · exact Or.inl ha
  · exact Or.inr (Nat.Coprime.dvd_of_dvd_mul_left (h.cop ha) hab)

/-- Binomial numbers. -/
def ch : Nat → Nat → Nat
  | _, 0 => 1
  | 0, _ + 1 => 0
  | n + 1, k + 1 => ch n k + ch n (k + 1)

theorem ch_zero (n : Nat) : ch n 0 = 1 := by cases n <;> rfl
theorem ch_succ (n k : Nat) : ch (n + 1) (k + 1) = ch n k + ch n (k + 1) := rfl
theorem ch_past (n : Nat) : ∀ k, n < k → ch n k = 0 := by
  induction n with
  | zero => intro k hk; cases k with
    | zero => omega
    | succ k => rfl
  | succ n ih => intro k hk; cases k with
    | zero => omega
    | succ k => rw [ch_succ, ih k (by omega), ih (k + 1) (by omega)]

theorem ch_absorb (n : Nat) : ∀ k, (k + 1) * ch (n + 1) (k + 1) = (n + 1) * ch n k := by
  induction n with
  | zero => intro k; cases k with
    | zero => rfl
    | succ k => rw [ch_past 1 (k + 1 + 1) (by omega), ch_past 0 (k + 1) (by omega)]; simp
  | succ n ih => intro k; cases k with
    | zero =>
      have := ih 0
      rw [ch_succ, ch_zero]
      rw [ch_zero] at this
      omega
    | succ j =>
      have h1 := ih j
      have h2 := ih (j + 1)
      have h3 := ch_succ n j
      rw [ch_succ (n + 1) (j + 1)]
      have e1 : (j + 1 + 1) * (ch (n + 1) (j + 1) + ch (n + 1) (j + 1 + 1)) = (j + 1) * ch (n + 1) (j + 1) + ch (n + 1) (j + 1) + (j + 1 + 1) * ch (n + 1) (j + 1 + 1) := by
        rw [Nat.mul_add, Nat.add_mul (j + 1) 1, Nat.one_mul]
      rw [e1, h1, h2]
      have e2 : (n + 1 + 1) * ch (n + 1) (j + 1) = (n + 1) * ch (n + 1) (j + 1) + ch (n + 1) (j + 1) := by rw [Nat.add_mul (n + 1) 1, Nat.one_mul]
      have e3 : (n + 1) * ch (n + 1) (j + 1) = (n + 1) * ch n j + (n + 1) * ch n (j + 1) := by rw [h3, Nat.mul_add]
      rw [e2, e3]
      omega

/-- The first so many terms of (a + 1) to the power n. -/
def bsum (a n : Nat) : Nat → Nat
  | 0 => 0
  | m + 1 => bsum a n m + ch n m * a ^ m

theorem bsum_succ (a n : Nat) : ∀ m, bsum a (n + 1) (m + 1) = bsum a n (m + 1) + a * bsum a n m := by
  intro m
  induction m with
  | zero => simp [bsum, ch_zero]
  | succ m ih =>
    have e1 : bsum a (n + 1) (m + 1 + 1) = bsum a (n + 1) (m + 1) + ch (n + 1) (m + 1) * a ^ (m + 1) := rfl
    have e2 : bsum a n (m + 1 + 1) = bsum a n (m + 1) + ch n (m + 1) * a ^ (m + 1) := rfl
    have e3 : bsum a n (m + 1) = bsum a n m + ch n m * a ^ m := rfl
    have e4 : a * (bsum a n m + ch n m * a ^ m) = a * bsum a n m + ch n m * a ^ (m + 1) := by
      rw [Nat.mul_add, Nat.pow_succ, Nat.mul_left_comm, Nat.mul_comm a (a ^ m)]
    rw [e1, ih, e2, ch_succ, Nat.add_mul]
    conv => rhs; rw [e3, e4]
    rw [← e3]
    omega

theorem bsum_pow (a n : Nat) : bsum a n (n + 1) = (a + 1) ^ n := by
  induction n with
  | zero => simp [bsum, ch_zero]
  | succ n ih =>
    have e : bsum a n (n + 1 + 1) = bsum a n (n + 1) + ch n (n + 1) * a ^ (n + 1) := rfl
    rw [bsum_succ, e, ch_past n (n + 1) (by omega), ih, Nat.pow_succ (a + 1), Nat.mul_add, Nat.mul_comm a]
    omega

theorem ch_prime {p : Nat} (hp : Prm p) (k : Nat) (h0 : 0 < k) (hk : k < p) : p ∣ ch p k := by
  obtain ⟨j, rfl⟩ : ∃ j, k = j + 1 := ⟨k - 1, by omega⟩
  obtain ⟨q, rfl⟩ : ∃ q, p = q + 1 := ⟨p - 1, by omega⟩
  have h := ch_absorb q j
  have hd : q + 1 ∣ (j + 1) * ch (q + 1) (j + 1) := ⟨_, h⟩
  rcases hp.euclid hd with h1 | h1
  · exact absurd (Nat.le_of_dvd (by omega) h1) (by omega)
  · exact h1

theorem bsum_prime {p : Nat} (hp : Prm p) (a : Nat) : ∀ m, m < p → bsum a p (m + 1) % p = 1 % p := by
  intro m
  induction m with
  | zero => intro _; simp [bsum, ch_zero]
  | succ m ih =>
    intro h
    have e : bsum a p (m + 1 + 1) = bsum a p (m + 1) + ch p (m + 1) * a ^ (m + 1) := rfl
    obtain ⟨c, hc⟩ := ch_prime hp (m + 1) (by omega) h
    rw [e, hc, Nat.mul_assoc, Nat.add_mul_mod_self_left]
    exact ih (by omega)

theorem fresh {p : Nat} (hp : Prm p) (a : Nat) : (a + 1) ^ p % p = (a ^ p + 1) % p := by
  have h := bsum_pow a p
  obtain ⟨q, rfl⟩ : ∃ q, p = q + 1 := ⟨p - 1, by have := hp.1; omega⟩
  have e : bsum a (q + 1) (q + 1 + 1) = bsum a (q + 1) (q + 1) + ch (q + 1) (q + 1) * a ^ (q + 1) := rfl
  have hc : ch (q + 1) (q + 1) = 1 := by
    have : ∀ n, ch n n = 1 := by
      intro n
      induction n with
      | zero => rfl
      | succ n ih => rw [ch_succ, ih, ch_past n (n + 1) (by omega)]
    exact this _
  rw [← h, e, hc, Nat.one_mul, Nat.add_comm, Nat.add_mod, bsum_prime hp a q (by omega), ← Nat.add_mod]

theorem fermat_pow {p : Nat} (hp : Prm p) (a : Nat) : a ^ p % p = a % p := by
  induction a with
  | zero => rw [Nat.zero_pow (by have := hp.1; omega)]
  | succ a ih => rw [fresh hp, Nat.add_mod, ih, ← Nat.add_mod]

/-- Fermat's theorem. -/
theorem fermat {p : Nat} (hp : Prm p) (a : Nat) (ha : ¬ p ∣ a) : a ^ (p - 1) % p = 1 := by
  have h := fermat_pow hp a
  have h1 := hp.1
  have hpos : 0 < a := by
    rcases Nat.eq_zero_or_pos a with e | e
    · exact absurd (e ▸ Nat.dvd_zero p) ha
    · exact e
  have hpow : 0 < a ^ (p - 1) := Nat.pow_pos hpos
  have e : a ^ p = a * a ^ (p - 1) := by
    conv => lhs; rw [show p = (p - 1) + 1 by omega, Nat.pow_succ, Nat.mul_comm]
  have hd : p ∣ a * (a ^ (p - 1) - 1) := by
    rw [Nat.mul_sub, ← e, Nat.mul_one]
    have hle : a ≤ a ^ p := by rw [e]; exact Nat.le_mul_of_pos_right a hpow
    refine ⟨a ^ p / p - a / p, ?_⟩
    have d1 := Nat.div_add_mod (a ^ p) p
    have d2 := Nat.div_add_mod a p
    rw [Nat.mul_sub]
    omega
  rcases hp.euclid hd with h2 | h2
  · exact absurd h2 ha
  · obtain ⟨c, hc⟩ := h2
    have : a ^ (p - 1) = p * c + 1 := by omega
    rw [this, Nat.mul_add_mod, Nat.mod_eq_of_lt h1]

theorem least (P : Nat → Prop) : ∀ n, P n → ∃ m, P m ∧ ∀ k, k < m → ¬ P k := by
  intro n
  induction n using Nat.strongRecOn with
  | _ n ih =>
    intro h
    by_cases hk : ∃ k, k < n ∧ P k
    · obtain ⟨k, h1, h2⟩ := hk
      exact ih k h1 h2
    · exact ⟨n, h, fun k h1 h2 => hk ⟨k, h1, h2⟩⟩

theorem small_factor {n : Nat} (h1 : 1 < n) (hn : ¬ Prm n) : ∃ r, Prm r ∧ r ∣ n ∧ r * r ≤ n := by
  obtain ⟨r, ⟨hr1, hrd⟩, hmin⟩ := least (fun d => 1 < d ∧ d ∣ n) n ⟨h1, Nat.dvd_refl n⟩
  have hlow : ∀ d, 1 < d → d ∣ n → r ≤ d := fun d h h' => by
    rcases Nat.lt_or_ge d r with hl | hg
    · exact absurd ⟨h, h'⟩ (hmin d hl)
    · exact hg
  have hp : Prm r := by
    refine ⟨hr1, fun d hd => ?_⟩
    have hpos : 0 < d := Nat.pos_of_dvd_of_pos hd (by omega)
    have hle : d ≤ r := Nat.le_of_dvd (by omega) hd
    by_cases h : d = 1
    · exact Or.inl h
    · have := hlow d (by omega) (Nat.dvd_trans hd hrd)
      omega
  refine ⟨r, hp, hrd, ?_⟩
  obtain ⟨c, hc⟩ := hrd
  have hc1 : 1 < c := by
    rcases Nat.lt_or_ge 1 c with h | h
    · exact h
    · exfalso
      have : c = 0 ∨ c = 1 := by omega
      rcases this with rfl | rfl
      · omega
      · rw [Nat.mul_one] at hc
        exact hn (hc ▸ hp)
  have := hlow c hc1 ⟨r, by rw [hc, Nat.mul_comm]⟩
  rw [hc]
  exact Nat.mul_le_mul_left r this

/-- No number from 2 to k + 1 divides n. -/
def noDiv (n : Nat) : Nat → Bool
  | 0 => true
  | k + 1 => n % (k + 2) != 0 && noDiv n k

theorem noDiv_spec (n : Nat) : ∀ k, noDiv n k = true → ∀ d, 2 ≤ d → d ≤ k + 1 → n % d ≠ 0 := by
  intro k
  induction k with
  | zero => intro _ d h1 h2; omega
  | succ k ih =>
    intro h d h1 h2
    simp only [noDiv, Bool.and_eq_true, bne_iff_ne] at h
    by_cases e : d = k + 2
    · rw [e]; exact h.1
    · exact ih h.2 d h1 (by omega)

theorem prm_small (n k : Nat) (h1 : 1 < n) (h : noDiv n k = true) (hk : n < (k + 2) * (k + 2)) : Prm n := by
  by_cases hp : Prm n
  · exact hp
  · obtain ⟨r, hr, hd, hs⟩ := small_factor h1 hp
    have h2 := hr.1
    have : r < k + 2 := by
      rcases Nat.lt_or_ge r (k + 2) with h | h
      · exact h
      · have := Nat.mul_le_mul h h; omega
    exact absurd (Nat.mod_eq_zero_of_dvd hd) (noDiv_spec n k h r (by omega) (by omega))

/-- Powers modulo n, by the bits of the exponent. -/
def pmod (a n : Nat) : Nat → Nat → Nat
  | 0, _ => 1 % n
  | f + 1, e => bif e % 2 == 1 then pmod a n f (e / 2) * pmod a n f (e / 2) % n * a % n else pmod a n f (e / 2) * pmod a n f (e / 2) % n

theorem pmod_eq (a n : Nat) : ∀ f e, e < 2 ^ f → pmod a n f e = a ^ e % n := by
  intro f
  induction f with
  | zero => intro e h; obtain rfl : e = 0 := by simpa using h
            rfl
  | succ f ih =>
    intro e h
    have hh := ih (e / 2) (by rw [Nat.pow_succ] at h; omega)
    have hsq : a ^ (e / 2) % n * (a ^ (e / 2) % n) % n = a ^ (e / 2 * 2) % n := by
      rw [← Nat.mul_mod, Nat.pow_mul, Nat.pow_two]
    rcases Nat.mod_two_eq_zero_or_one e with h0 | h0
    · simp only [pmod, h0, hh, hsq]
      show a ^ (e / 2 * 2) % n = _
      rw [show e / 2 * 2 = e by omega]
    · simp only [pmod, h0, hh, hsq]
      show a ^ (e / 2 * 2) % n * a % n = _
      rw [Nat.mod_mul_mod, ← Nat.pow_succ, show (e / 2 * 2).succ = e by omega]

theorem pow_gcd {r a : Nat} (hr : 1 < r) : ∀ m n, a ^ m % r = 1 → a ^ n % r = 1 → a ^ Nat.gcd m n % r = 1 := by
  intro m n
  induction m, n using Nat.gcd.induction with
  | H0 n => intro _ h; rwa [Nat.gcd_zero_left]
  | H1 m n hm ih =>
    intro h1 h2
    rw [Nat.gcd_rec]
    refine ih ?_ h1
    have e : a ^ n = a ^ (n % m) * (a ^ m) ^ (n / m) := by
      rw [← Nat.pow_mul, ← Nat.pow_add, Nat.mod_add_div]
    rw [e, Nat.mul_mod, Nat.pow_mod (a ^ m), h1, Nat.one_pow, Nat.mod_eq_of_lt hr, Nat.mul_one, Nat.mod_mod] at h2
    exact h2

/-- One prime of Pocklington's test. -/
theorem pock_step {n s m a r : Nat} (hs : Prm s) (hn : n - 1 = s * m) (h1 : a ^ (n - 1) % n = 1) (h2 : Nat.gcd (a ^ m % n + n - 1) n = 1) (hr : Prm r) (hrn : r ∣ n) (hn1 : 1 < n) : s ∣ r - 1 := by
  have hr1 := hr.1
  have g1 : a ^ (n - 1) % r = 1 := by
    have := Nat.mod_mod_of_dvd (a ^ (n - 1)) hrn
    rw [h1, Nat.mod_eq_of_lt hr1] at this
    exact this.symm
  have hra : ¬ r ∣ a := by
    intro h
    have hpos : 0 < n - 1 := by omega
    have hd : r ∣ a ^ (n - 1) := Nat.dvd_trans h ⟨a ^ (n - 1 - 1), by rw [← Nat.pow_succ', Nat.succ_eq_add_one, show n - 1 - 1 + 1 = n - 1 by omega]⟩
    rw [Nat.mod_eq_zero_of_dvd hd] at g1
    omega
  have g2 := fermat hr a hra
  have g3 := pow_gcd hr1 _ _ g2 g1
  by_cases hd : s ∣ r - 1
  · exact hd
  · exfalso
    have hcop : Nat.gcd (r - 1) s = 1 := by rw [Nat.gcd_comm]; exact hs.cop hd
    have hg : Nat.gcd (r - 1) (n - 1) ∣ m := by
      rw [hn]
      have k1 : Nat.gcd (r - 1) (s * m) ∣ s * m := Nat.gcd_dvd_right _ _
      have k2 : Nat.gcd (Nat.gcd (r - 1) (s * m)) s = 1 := by
        have : Nat.gcd (Nat.gcd (r - 1) (s * m)) s ∣ Nat.gcd (r - 1) s := Nat.dvd_gcd (Nat.dvd_trans (Nat.gcd_dvd_left _ _) (Nat.gcd_dvd_left _ _)) (Nat.gcd_dvd_right _ _)
        rw [hcop] at this
        exact Nat.dvd_one.1 this
      exact Nat.Coprime.dvd_of_dvd_mul_left k2 k1
    obtain ⟨c, hc⟩ := hg
    have g4 : a ^ m % r = 1 := by
      rw [hc, Nat.pow_mul, Nat.pow_mod, g3, Nat.one_pow, Nat.mod_eq_of_lt hr1]
    have hx : r ∣ a ^ m % n + n - 1 := by
      have e := Nat.mod_mod_of_dvd (a ^ m) hrn
      rw [g4] at e
      have k : (a ^ m % n + n - 1) % r = 0 := by
        obtain ⟨t, ht⟩ := hrn
        generalize a ^ m % n = x at *
        have hx1 : x = r * (x / r) + 1 := by have := Nat.div_add_mod x r; omega
        have : x + n - 1 = r * (x / r + t) := by rw [Nat.mul_add, ← ht]; omega
        rw [this, Nat.mul_mod_right]
      exact Nat.dvd_of_mod_eq_zero k
    have := Nat.dvd_gcd hx hrn
    rw [h2] at this
    have := Nat.dvd_one.1 this
    omega

theorem pock {n f : Nat} (h1 : 1 < n) (hf : n < f * f) (h : ∀ r, Prm r → r ∣ n → f ∣ r - 1) : Prm n := by
  by_cases hp : Prm n
  · exact hp
  · obtain ⟨r, hr, hd, hs⟩ := small_factor h1 hp
    have h2 := hr.1
    have h3 := Nat.le_of_dvd (by omega) (h r hr hd)
    have : f * f ≤ r * r := Nat.mul_le_mul (by omega) (by omega)
    omega

theorem pock2 {n s t m k a b : Nat} (hs : Prm s) (ht : Prm t) (hst : Nat.gcd s t = 1) (h1 : 1 < n) (hm : n - 1 = s * m) (hk : n - 1 = t * k) (hf : n < s * t * (s * t))
    (a1 : a ^ (n - 1) % n = 1) (a2 : Nat.gcd (a ^ m % n + n - 1) n = 1) (b1 : b ^ (n - 1) % n = 1) (b2 : Nat.gcd (b ^ k % n + n - 1) n = 1) : Prm n :=
  pock h1 hf fun _ hr hd => Nat.Coprime.mul_dvd_of_dvd_of_dvd hst (pock_step hs hm a1 a2 hr hd h1) (pock_step ht hk b1 b2 hr hd h1)

/-- All that Pocklington's test asks of numbers, in one test. -/
def chk (n s t m k a f : Nat) : Bool :=
  Nat.ble 2 n && Nat.beq (n - 1) (s * m) && Nat.beq (n - 1) (t * k) && Nat.ble (n + 1) (s * t * (s * t)) && Nat.beq (Nat.gcd s t) 1 && Nat.ble (n + 1) (2 ^ f) && Nat.beq (pmod a n f (n - 1)) 1 &&
    Nat.beq (Nat.gcd (pmod a n f m + n - 1) n) 1 && Nat.beq (Nat.gcd (pmod a n f k + n - 1) n) 1

theorem prm_chk {n s t m k a f : Nat} (hs : Prm s) (ht : Prm t) (h : chk n s t m k a f = true) : Prm n := by
  simp only [chk, Bool.and_eq_true, Nat.beq_eq, Nat.ble_eq] at h
  obtain ⟨⟨⟨⟨⟨⟨⟨⟨h1, h2⟩, h3⟩, h4⟩, h5⟩, h6⟩, h7⟩, h8⟩, h9⟩ := h
  have hs1 := hs.1; have ht1 := ht.1
  have b1 : m ≤ n - 1 := by rw [h2]; exact Nat.le_mul_of_pos_left m (by omega)
  have b2 : k ≤ n - 1 := by rw [h3]; exact Nat.le_mul_of_pos_left k (by omega)
  rw [pmod_eq a n f _ (by omega)] at h7 h8 h9
  exact pock2 hs ht h5 (by omega) h2 h3 (by omega) h7 h8 h7 h9

/-- The same for one prime. -/
def chkOne (n s m a f : Nat) : Bool := Nat.ble 2 n && Nat.ble (n + 1) (s * s) && Nat.beq (n - 1) (s * m) && Nat.ble (n + 1) (2 ^ f) && Nat.beq (pmod a n f (n - 1)) 1 && Nat.beq (Nat.gcd (pmod a n f m + n - 1) n) 1

theorem prm_one {n s m a f : Nat} (hs : Prm s) (h : chkOne n s m a f = true) : Prm n := by
  simp only [chkOne, Bool.and_eq_true, Nat.beq_eq, Nat.ble_eq] at h
  obtain ⟨⟨⟨⟨⟨h1, h2⟩, h3⟩, h4⟩, h5⟩, h6⟩ := h
  have hs1 := hs.1
  have b1 : m ≤ n - 1 := by rw [h3]; exact Nat.le_mul_of_pos_left m (by omega)
  rw [pmod_eq a n f _ (by omega)] at h5 h6
  exact pock (by omega) (f := s) (by omega) (fun r hr hd => pock_step hs h3 h5 h6 hr hd (by omega))

theorem prm127 : Prm 127 := prm_small 127 10 (by decide) (by decide) (by decide)
theorem prm4153 : Prm 4153 := prm_small 4153 63 (by decide) (by decide +kernel) (by decide)
theorem prm75707 : Prm 75707 := prm_small 75707 274 (by decide) (by decide +kernel) (by decide)
theorem prm430751 : Prm 430751 := prm_small 430751 655 (by decide) (by decide +kernel) (by decide)
theorem prm8574133 : Prm 8574133 := prm_small 8574133 2927 (by decide) (by decide +kernel) (by decide)
theorem prmS : Prm 31757755568855353 := prm_chk prm430751 prm4153 (m := 73726481352) (k := 7646943310584) (a := 2) (f := 56) (by decide +kernel)
theorem prmT : Prm 1919519569386763 := prm_chk prm8574133 prm127 (m := 223873314) (k := 15114327318006) (a := 2) (f := 52) (by decide +kernel)
theorem prmR : Prm 75445702479781427272750846543864801 := prm_chk prmT prm75707 (m := 39304471641247389600) (k := 996548568557483816196003626400) (a := 2) (f := 117) (by decide +kernel)
theorem prmQ : Prm 74058212732561358302231226437062788676166966415465897661863160754340907 := prm_chk prmR prmS (m := 981609426360740691344999861639072106) (k := 2331972502653487852620185443007392165117953542933313402) (a := 2) (f := 237) (by decide +kernel)
theorem prmP : Prm 57896044618658097711785492504343953926634992332820282019728792003956564819949 :=
  prm_one prmQ (m := 781764) (a := 2) (f := 256) (by decide +kernel)
end Go.Proofs.YtgojlikjcpnhjaaDoor

namespace Go.Proofs.YtgojlikjcpnhjaaDoor
open Go.RowKit

/-- The four words of a number. -/
def dig (n : Nat) : Nat → Nat := four (n % 18446744073709551616) (n / 18446744073709551616 % 18446744073709551616) (n / 340282366920938463463374607431768211456 % 18446744073709551616) (n / 6277101735386680763835789423207666416102355444464034512896 % 18446744073709551616)

theorem dig_ok {n : Nat} (h : n < pp) : Ok (dig n) ∧ nm (dig n) = n := by
  have e : nm (dig n) = n := by
    simp only [nm, dig, four]
    unfold num pp at *
    omega
  refine ⟨⟨fun i => ?_, by rw [e]; exact h⟩, e⟩
  match i with
  | 0 => exact Nat.mod_lt _ (by omega)
  | 1 => exact Nat.mod_lt _ (by omega)
  | 2 => exact Nat.mod_lt _ (by omega)
  | _ + 3 => exact Nat.mod_lt _ (by omega)

theorem el_dig {z : Nat → Nat} (hz : Ok z) {n : Nat} (e : nm z = n) : el z = el (dig n) := by
  subst e
  have h := dig_ok hz.2
  obtain ⟨a, b, c, d⟩ := (beq_words hz.1 h.1.1).1 h.2.symm
  rw [el, el, a, b, c, d]

theorem pp_pos : 0 < pp := by unfold pp; omega
theorem mod_pp (n : Nat) : n % pp < pp := Nat.mod_lt _ pp_pos

theorem plus_d {m n : Nat} (hm : m < pp) (hn : n < pp) (w : World) : Calls Tryd.prog 58 #[el (dig m), el (dig n)] w fun e w' => e = .returned (el (dig ((m + n) % pp))) ∧ Below w.heap.size w w' := by
  obtain ⟨z, hz, e, c⟩ := plus_any _ _ (dig_ok hm).1 (dig_ok hn).1
  have e := e.out; rw [(dig_ok hm).2, (dig_ok hn).2] at e
  rw [← el_dig hz e]; exact c w
theorem minus_d {m n : Nat} (hm : m < pp) (hn : n < pp) (w : World) : Calls Tryd.prog 31 #[el (dig m), el (dig n)] w fun e w' => e = .returned (el (dig ((m + (pp - n)) % pp))) ∧ Below w.heap.size w w' := by
  obtain ⟨z, hz, e, c⟩ := minus_any _ _ (dig_ok hm).1 (dig_ok hn).1
  have e := e.out; rw [(dig_ok hm).2, (dig_ok hn).2] at e
  rw [← el_dig hz e]; exact c w
theorem times_d {m n : Nat} (hm : m < pp) (hn : n < pp) (w : World) : Calls Tryd.prog 56 #[el (dig m), el (dig n)] w fun e w' => e = .returned (el (dig (m * n % pp))) ∧ Below w.heap.size w w' := by
  obtain ⟨z, hz, e, c⟩ := times_el _ _ (dig_ok hm).1 (dig_ok hn).1
  have e := e.out; rw [(dig_ok hm).2, (dig_ok hn).2] at e
  rw [← el_dig hz e]; exact c w
theorem is_d {m n : Nat} (hm : m < pp) (hn : n < pp) (w : World) : Calls Tryd.prog 30 #[el (dig m), el (dig n)] w fun e w' => e = .returned (.bool (decide (m = n))) ∧ Below w.heap.size w w' := by
  have := is_any _ _ (dig_ok hm).1 (dig_ok hn).1 w
  rwa [(dig_ok hm).2, (dig_ok hn).2] at this
theorem even_d {m : Nat} (hm : m < pp) (w : World) : Calls Tryd.prog 42 #[el (dig m)] w fun e w' => e = .returned (.bool (decide (m % 2 = 0))) ∧ Below w.heap.size w w' := by
  have := even_any _ (dig_ok hm).1 w
  rwa [(dig_ok hm).2] at this
/-- The number that 32 bytes tell, as an element. -/
def ofb (b : Nat → Nat) : Nat := nb b 32 % 57896044618658097711785492504343953926634992332820282019728792003956564819968 % pp
theorem of_d {b : Nat → Nat} (hb : ∀ i, b i < 256) (w : World) : Calls Tryd.prog 27 #[.agg (arr 32 fun i => .int .u8 (b i))] w fun e w' => e = .returned (el (dig (ofb b))) ∧ Below w.heap.size w w' := by
  obtain ⟨z, hz, e, c⟩ := of_any b hb
  rw [← el_dig hz (n := ofb b) e.out]; exact c w
theorem int_pos_d {m : Nat} (h : m < 9223372036854775808) (w : World) : Calls Tryd.prog 33 #[.int .i64 (m : Int)] w fun e w' => e = .returned (el (dig m)) ∧ Below w.heap.size w w' := by
  rw [← el_dig (ok_four m (by omega)).1 (ok_four m (by omega)).2]; exact int_pos m h w
theorem int_neg_d {m : Nat} (h1 : 1 ≤ m) (h2 : m ≤ 9223372036854775808) (w : World) : Calls Tryd.prog 33 #[.int .i64 (-(m : Int))] w fun e w' => e = .returned (el (dig (pp - m))) ∧ Below w.heap.size w w' := by
  obtain ⟨z, hz, e, c⟩ := int_neg m h1 h2
  have e := e.out; rw [Nat.mod_eq_of_lt (by have := pp_pos; omega)] at e
  rw [← el_dig hz e]; exact c w

/-- The inverse's number. -/
theorem inverse_d {m : Nat} (hm : m < pp) : ∃ k : Nat, Hid (k = 57896044618658097711785492504343953926634992332820282019728792003956564819947) ∧ ∀ w, Calls Tryd.prog 63 #[el (dig m)] w fun e w' => e = .returned (el (dig (m ^ k % pp))) ∧ Below w.heap.size w w' := by
  obtain ⟨k, hk⟩ : ∃ k : Nat, Hid (k = 57896044618658097711785492504343953926634992332820282019728792003956564819947) := ⟨_, hide1 rfl⟩
  refine ⟨k, hk, fun w => ?_⟩
  refine (inverse_any _ (dig_ok hm).1 w).mono ?_
  rintro e w' ⟨z, k', hz, hk', ez, rfl, hb⟩
  obtain rfl : k = k' := hk.out.trans hk'.out.symm
  have ez := ez.out
  rw [(dig_ok hm).2] at ez
  exact ⟨by rw [el_dig hz ez], hb⟩

set_option maxRecDepth 100000 in
set_option maxHeartbeats 2000000 in
theorem over_d {m n : Nat} (hm : m < pp) (hn : n < pp) : ∃ k : Nat, Hid (k = 57896044618658097711785492504343953926634992332820282019728792003956564819947) ∧ ∀ w, Calls Tryd.prog 34 #[el (dig m), el (dig n)] w fun e w' => e = .returned (el (dig (m * (n ^ k % pp) % pp))) ∧ Below w.heap.size w w' := by
  obtain ⟨k, hk, c1⟩ := inverse_d hn
  refine ⟨k, hk, fun w => ?_⟩
  have c2 := fun w => times_d hm (mod_pp (n ^ k)) w
  clear hk
  generalize n ^ k % pp = r at *
  generalize m * r % pp = q at *
  have hA1 := @aft_cell; have hA2 := @aft_frozen; have hA3 := @aft_set; have hA4 := @aft_aft; have hA5 := @aft_drew_in
  go_enter Tryd.func34, Tryd.ntmps34
  go_wp2_with fail
  go_region_with (first
    | (go_at_call 63; refine (c1 _).mono ?_; rintro e w1 ⟨rfl, hb1⟩; obtain ⟨g1, rfl⟩ := aft_of hb1; clear hb1)
    | (go_at_call 56; refine (c2 _).mono ?_; rintro e w1 ⟨rfl, hb1⟩; obtain ⟨g2, rfl⟩ := aft_of hb1; clear hb1))
  all_goals go_wp2
  all_goals exact bodyPost_ret (v := el (dig q)) (by simp [results, Tryd.results34, go_sem, hA1]) rfl ⟨rfl, bnext (below3 _ _ _ _) (aft_below _ _)⟩
end Go.Proofs.YtgojlikjcpnhjaaDoor

namespace Go.Proofs.YtgojlikjcpnhjaaDoor
open Go.RowKit

theorem key_d {m : Nat} (hm : m < pp) (w : World) : Calls Tryd.prog 28 #[el (dig m)] w fun e w' => e = .returned (.agg (arr 32 fun i => .int .u8 (byt (dig m) i))) ∧ Below w.heap.size w w' :=
  key_any _ (dig_ok hm).1 w

/-- A number times its power by the prime less 2. -/
theorem inv_one {m k : Nat} (hm : m < pp) (h0 : m ≠ 0) (hk : k = 57896044618658097711785492504343953926634992332820282019728792003956564819947) : m * (m ^ k % pp) % pp = 1 := by
  have hp : Prm pp := prmP
  have hd : ¬ pp ∣ m := fun h => by have := Nat.le_of_dvd (by omega) h; omega
  have h := fermat hp m hd
  have e : pp - 1 = k + 1 := by rw [hk]; rfl
  rw [e, Nat.pow_succ, Nat.mul_comm] at h
  rw [Nat.mul_mod_mod]; exact h

theorem byt_one : ∀ i, i < 32 → byt (dig 1) i = if i = 0 then 1 else 0 := by decide +kernel

theorem one_get (i : Nat) (hi : i < 32) : (#[.int .u8 1, .int .u8 0, .int .u8 0, .int .u8 0, .int .u8 0, .int .u8 0, .int .u8 0, .int .u8 0, .int .u8 0, .int .u8 0, .int .u8 0, .int .u8 0, .int .u8 0, .int .u8 0, .int .u8 0, .int .u8 0, .int .u8 0, .int .u8 0, .int .u8 0, .int .u8 0, .int .u8 0, .int .u8 0, .int .u8 0, .int .u8 0, .int .u8 0, .int .u8 0, .int .u8 0, .int .u8 0, .int .u8 0, .int .u8 0, .int .u8 0, .int .u8 0] : Array Value)[i]? = some (.int .u8 (if i = 0 then 1 else 0)) := by
  have e : (#[.int .u8 1, .int .u8 0, .int .u8 0, .int .u8 0, .int .u8 0, .int .u8 0, .int .u8 0, .int .u8 0, .int .u8 0, .int .u8 0, .int .u8 0, .int .u8 0, .int .u8 0, .int .u8 0, .int .u8 0, .int .u8 0, .int .u8 0, .int .u8 0, .int .u8 0, .int .u8 0, .int .u8 0, .int .u8 0, .int .u8 0, .int .u8 0, .int .u8 0, .int .u8 0, .int .u8 0, .int .u8 0, .int .u8 0, .int .u8 0, .int .u8 0, .int .u8 0] : Array Value) = ⟨.int .u8 1 :: List.replicate 31 (.int .u8 0)⟩ := rfl
  rw [e]
  cases i with
  | zero => rfl
  | succ i =>
    rw [← Array.getElem?_toList, List.getElem?_cons_succ, List.getElem?_replicate, if_pos (by omega), if_neg (by omega)]

set_option maxRecDepth 100000 in
theorem eq_one (w : World) : (Op.equalIn 10000 23 (.agg (arr 32 fun i => .int .u8 (byt (dig 1) i))) (.agg #[.int .u8 1, .int .u8 0, .int .u8 0, .int .u8 0, .int .u8 0, .int .u8 0, .int .u8 0, .int .u8 0, .int .u8 0, .int .u8 0, .int .u8 0, .int .u8 0, .int .u8 0, .int .u8 0, .int .u8 0, .int .u8 0, .int .u8 0, .int .u8 0, .int .u8 0, .int .u8 0, .int .u8 0, .int .u8 0, .int .u8 0, .int .u8 0, .int .u8 0, .int .u8 0, .int .u8 0, .int .u8 0, .int .u8 0, .int .u8 0, .int .u8 0, .int .u8 0])).run Tryd.prog w = .ok true w := by
  rw [eq_ints (e := 5) (n := 32) (k := .u8) (k' := .u8) Tryd.underlying23 (inf := _) rfl (by kernel_rfl) Tryd.underlying5 (fun _ => by kernel_rfl) _ _ (fun i => (byt (dig 1) i : Int)) (fun i => if i = 0 then 1 else 0)
    (fun i hi => arr_get _ _ _ hi) (fun i hi => one_get i hi) w]
  rw [decide_eq_true]
  intro i hi
  rw [byt_one i hi]
  split <;> rfl

end Go.Proofs.YtgojlikjcpnhjaaDoor

namespace Go.Proofs.YtgojlikjcpnhjaaDoor
open Go.RowKit

/-- An element's cells, as one name. -/
def ce (n : Nat) : Array Value := cs (dig n)
theorem ldE {n : Nat} (t0 : TypeId) (w : World) (q : Nat) (h : w.heap[q]? = some (.cells (ce n) t0 (0, 0))) : (Instr.loadAt 42 (.pointer (some ⟨q, 0, none⟩))).run Tryd.prog w = .ok (el (dig n)) w :=
  ld_row (c := ce n) Tryd.underlying42 rfl (by kernel_rfl) w q h
theorem stE {n : Nat} {c : Array Value} (t0 : TypeId) (hc : c.size = 4) (w : World) (q : Nat) (h : w.heap[q]? = some (.cells c t0 (0, 0))) : (Instr.storeAt 42 (.pointer (some ⟨q, 0, none⟩)) (el (dig n))).run Tryd.prog w = .ok () (w.setRow q (ce n)) :=
  st_row (n := ce n) (by kernel_rfl) hc (cs_one (dig n)) w q h
theorem alE (w : World) : (Instr.alloc 42 true (.tuple #[])).run Tryd.prog w = .ok (.pointer (some ⟨w.heap.size, 0, none⟩)) (w.alloc (.cells (ce 0) 42)) := by
  simp [Instr.alloc, go_sem]
  rfl
theorem bxE {n : Nat} (w : World) : (Instr.box 42 (el (dig n))).run Tryd.prog w = .ok (.pointer (some ⟨w.heap.size, 0, none⟩)) (w.alloc (.cells (ce n) 42)) := bx_agg (c := ce n) w
theorem ce_size (n : Nat) : (ce n).size = 4 := rfl
theorem bdE (w : World) : (Instr.build 42 #[]).run Tryd.prog w = .ok (el (dig 0)) w := by kernel_rfl

theorem is_t {m n : Nat} (hm : m < pp) (hn : n < pp) (h : m = n) (w : World) : Calls Tryd.prog 30 #[el (dig m), el (dig n)] w fun e w' => e = .returned (.bool true) ∧ Below w.heap.size w w' := by
  have := is_d hm hn w
  rwa [decide_eq_true h] at this
theorem is_f {m n : Nat} (hm : m < pp) (hn : n < pp) (h : m ≠ n) (w : World) : Calls Tryd.prog 30 #[el (dig m), el (dig n)] w fun e w' => e = .returned (.bool false) ∧ Below w.heap.size w w' := by
  have := is_d hm hn w
  rwa [decide_eq_false h] at this
theorem even_b {m : Nat} {b : Bool} (hm : m < pp) (h : decide (m % 2 = 0) = b) (w : World) : Calls Tryd.prog 42 #[el (dig m)] w fun e w' => e = .returned (.bool b) ∧ Below w.heap.size w w' := by
  have := even_d hm w
  rwa [h] at this
theorem of_k {b : Nat → Nat} (hb : ∀ i, b i < 256) (w : World) : Calls Tryd.prog 27 #[.agg (ck b)] w fun e w' => e = .returned (el (dig (ofb b))) ∧ Below w.heap.size w w' := of_d hb w
theorem int_lit {m : Nat} (h : m < 9223372036854775808) (w : World) : Calls Tryd.prog 33 #[.int .i64 (m : Int)] w fun e w' => e = .returned (el (dig m)) ∧ Below w.heap.size w w' := int_pos_d h w
theorem ofb_lt (b : Nat → Nat) : ofb b < pp := mod_pp _

end Go.Proofs.YtgojlikjcpnhjaaDoor

namespace Go.Proofs.YtgojlikjcpnhjaaDoor
open Go.RowKit

/-- Cells of several elements, one behind the other. -/
def ces (l : List Nat) : Array Value := (l.flatMap fun n => (cs (dig n)).toList).toArray
theorem ces_size (l : List Nat) : (ces l).size = 4 * l.length := by
  unfold ces
  simp only [List.size_toArray]
  induction l with
  | nil => rfl
  | cons n l ih => rw [List.flatMap_cons, List.length_append, ih]; simp; omega
theorem ces_get : ∀ (l : List Nat) (k n j : Nat), l[k]? = some n → j < 4 → (ces l)[4 * k + j]? = (cs (dig n))[j]? := by
  intro l
  induction l with
  | nil => intro k n j h; simp at h
  | cons m l ih =>
    intro k n j h hj
    unfold ces at *
    simp only [List.getElem?_toArray, List.flatMap_cons]
    cases k with
    | zero =>
      simp at h; subst h
      rw [List.getElem?_append_left (by simp; omega)]
      simp
    | succ k =>
      rw [List.getElem?_append_right (by simp; omega)]
      have := ih k n j (by simpa using h) hj
      simp only [List.getElem?_toArray] at this
      rw [← this]
      congr 1
      simp; omega
theorem ces_one (l : List Nat) : (ces l).all (·.oneCell') = true := by
  rw [Array.all_eq_true_iff_forall_mem]
  intro v hv
  unfold ces at hv
  simp only [List.mem_toArray, List.mem_flatMap] at hv
  obtain ⟨n, _, h⟩ := hv
  have := Array.all_eq_true_iff_forall_mem.1 (cs_one (dig n)) v (by simpa using h)
  exact this
theorem ld_ces {l : List Nat} {k n : Nat} (t0 : TypeId) (hk : l[k]? = some n) (w : World) (q : Nat) (h : w.heap[q]? = some (.cells (ces l) t0 (0, 0))) : (Instr.loadAt 42 (.pointer (some ⟨q, 4 * k, none⟩))).run Tryd.prog w = .ok (el (dig n)) w := by
  have c0 : w.cell? ⟨q, 4 * k, none⟩ = some (.int .u64 (dig n 0)) := by rw [cell_of_row _ _ _ _ _ _ h]; exact ces_get l k n 0 hk (by omega)
  have c1 : w.cell? ⟨q, 4 * k + 1, none⟩ = some (.int .u64 (dig n 1)) := by rw [cell_of_row _ _ _ _ _ _ h]; exact ces_get l k n 1 hk (by omega)
  have c2 : w.cell? ⟨q, 4 * k + 2, none⟩ = some (.int .u64 (dig n 2)) := by rw [cell_of_row _ _ _ _ _ _ h]; exact ces_get l k n 2 hk (by omega)
  have c3 : w.cell? ⟨q, 4 * k + 3, none⟩ = some (.int .u64 (dig n 3)) := by rw [cell_of_row _ _ _ _ _ _ h]; exact ces_get l k n 3 hk (by omega)
  simp [Instr.loadAt, Instr.sureAddr, go_sem, c0, c1, c2, c3]
end Go.Proofs.YtgojlikjcpnhjaaDoor

namespace Go.Proofs.YtgojlikjcpnhjaaDoor
open Go.RowKit

theorem cs_dig {z : Nat → Nat} (hz : Ok z) {n : Nat} (e : nm z = n) : cs z = cs (dig n) := by
  have := el_dig hz e
  simpa [el, cs] using this

/-- What grows a power, by numbers. -/
theorem grow_d (t b : Nat) (ht : t < 1000) {x n : Nat} (hx : x < pp) (hn : n < pp) (t0 : TypeId) (w : World) (hrow : w.heap[b]? = some (.cells (ce x) t0 (0, 0))) :
    Calls Tryd.prog 84 #[.int .i64 t, el (dig n), .pointer (some ⟨b, 0, none⟩)] w fun e w' => e = .returned (el (dig (x ^ (2 ^ t) * n % pp))) ∧ Mod b w w' ∧ w'.heap[b]? = some (.cells (ce (x ^ (2 ^ t) * n % pp)) t0 (0, 0)) := by
  refine (grow_any t b ht _ _ (dig_ok hx).1 (dig_ok hn).1 t0 w hrow).mono ?_
  rintro e w' ⟨z, hz, ez, rfl, hm, hr⟩
  have ez := ez.out
  rw [(dig_ok hx).2, (dig_ok hn).2] at ez
  refine ⟨by rw [el_dig hz ez], hm, ?_⟩
  rw [cs_dig hz ez] at hr; exact hr

theorem ones_d {x : Nat} (hx : x < pp) : ∃ E : Nat, Hid (E = 1809251394333065553493296640760748560207343510400633813116524750123642650623) ∧ ∀ w,
    Calls Tryd.prog 75 #[el (dig x)] w fun e w' => ∃ b : Nat, e = .returned (.func (.func 84) #[] #[.pointer (some ⟨b, 0, none⟩)]) ∧ w.heap.size ≤ b ∧ Below w.heap.size w w' ∧ w'.heap[b]? = some (.cells (ce (x ^ E % pp)) 42 (0, 0)) := by
  obtain ⟨E, hE⟩ : ∃ E : Nat, Hid (E = 1809251394333065553493296640760748560207343510400633813116524750123642650623) := ⟨_, hide1 rfl⟩
  refine ⟨E, hE, fun w => ?_⟩
  refine (ones_any _ (dig_ok hx).1 w).mono ?_
  rintro e w' ⟨z, E', b, hz, hE', ez, rfl, hb, hw, hr⟩
  obtain rfl : E = E' := hE.out.trans hE'.out.symm
  have ez := ez.out
  rw [(dig_ok hx).2] at ez
  refine ⟨b, rfl, hb, hw, ?_⟩
  rw [cs_dig hz ez] at hr; exact hr

/-- A root of -1. -/
def iRt : Nat := 19681161376707505956807079304988542015446066515923890162744021073123829784752

theorem iroot_d (w : World) : Calls Tryd.prog 80 #[] w fun e w' => e = .returned (el (dig iRt)) ∧ Below w.heap.size w w' := by
  have h : el (dig iRt) = el (four 14190309331451158704 3405592160176694392 3120150775007532967 3135389899092516619) := by
    have h0 : dig iRt 0 = 14190309331451158704 := by decide +kernel
    have h1 : dig iRt 1 = 3405592160176694392 := by decide +kernel
    have h2 : dig iRt 2 = 3120150775007532967 := by decide +kernel
    have h3 : dig iRt 3 = 3135389899092516619 := by decide +kernel
    simp only [el, four, h0, h1, h2, h3]
  rw [h]
  go_enter Tryd.func80, Tryd.ntmps80
  go_wp2_with fail
  exact bodyPost_ret (v := el (four 14190309331451158704 3405592160176694392 3120150775007532967 3135389899092516619)) (by simp [results, Tryd.results80, go_sem, four]) rfl ⟨rfl, below1 _ _⟩
end Go.Proofs.YtgojlikjcpnhjaaDoor

namespace Go.Proofs.YtgojlikjcpnhjaaDoor
open Go.RowKit

theorem iRt_lt : iRt < pp := by decide +kernel
/-- The root, out of the power. -/
def aRt (R m : Nat) : Nat := if R * R % pp = m then R else R * iRt % pp
theorem aRt_lt {R m : Nat} (h : R < pp) : aRt R m < pp := by unfold aRt; split <;> first | exact h | exact mod_pp _
theorem aRt_t {R m : Nat} (h : R * R % pp = m) : aRt R m = R := if_pos h
theorem aRt_f {R m : Nat} (h : ¬ R * R % pp = m) : aRt R m = R * iRt % pp := if_neg h
theorem root_exp {m E k R : Nat} (hE : E = 1809251394333065553493296640760748560207343510400633813116524750123642650623) (hk : k = 7237005577332262213973186563042994240829374041602535252466099000494570602494) (hR : R = (m ^ E % pp) ^ 2 ^ 2 * (m * m % pp) % pp) : R = m ^ k % pp := by
  rw [hR, Nat.mul_mod_mod, ← Nat.mod_mul_mod, ← Nat.pow_mod, Nat.mod_mul_mod, ← Nat.pow_mul]
  have : m ^ (E * 2 ^ 2) * (m * m) = m ^ k := by
    rw [← Nat.pow_two, ← Nat.pow_add]
    congr 1
    rw [hE, hk]
  rw [this]

set_option maxHeartbeats 4000000 in
theorem anyRoot_d {m : Nat} (hm : m < pp) : ∃ k : Nat, Hid (k = 7237005577332262213973186563042994240829374041602535252466099000494570602494) ∧ ∀ w, Calls Tryd.prog 73 #[el (dig m)] w fun e w' => e = .returned (.tuple #[el (dig (aRt (m ^ k % pp) m)), .bool (decide (aRt (m ^ k % pp) m * aRt (m ^ k % pp) m % pp = m))]) ∧ Below w.heap.size w w' := by
  obtain ⟨E, hE, c1⟩ := ones_d hm
  have c2 := fun w => times_d hm hm w
  obtain ⟨k, hk⟩ : ∃ k : Nat, Hid (k = 7237005577332262213973186563042994240829374041602535252466099000494570602494) := ⟨_, hide1 rfl⟩
  obtain ⟨R, hR⟩ : ∃ R, Hid (R = (m ^ E % pp) ^ 2 ^ 2 * (m * m % pp) % pp) := ⟨_, hide1 rfl⟩
  have hRl : R < pp := by rw [hR.out]; exact mod_pp _
  have c48 := iroot_d
  have hi2l := iRt_lt
  have hat : ∀ R m, ¬ R * R % pp = m → aRt R m = R * iRt % pp := fun R m h => aRt_f h
  generalize iRt = i2 at c48 hi2l hat
  refine ⟨k, hk, fun W0 => ?_⟩
  rw [← root_exp hE.out hk.out hR.out]
  refine sym_enter Tryd.func73 Tryd.ntmps73 rfl [.inl (el (dig m)), .inl undef, .inl undef, .inl undef, .inl undef, .inl undef, .inl undef, .inl undef, .inl undef, .inl undef, .inl undef, .inl undef, .inl undef, .inl undef, .inl undef, .inl undef, .inl undef, .inl undef, .inl undef, .inl undef, .inl undef, .inl undef, .inl undef, .inl undef, .inl undef, .inl undef, .inl undef, .inl undef] (by kernel_rfl) (by kernel_rfl) ?_
  intro β a h; replace h := h.o0
  refine sym_seq ?_
  refine St.rg h [(1, .inr (0, pt 0)), (2, .inr (1, pt 0)), (3, .inl (.bool false))] [(ce m, 42), (ce 0, 42)] [] [eN 0, eN 1] ?_ ?_
  · exact oc (k_bx 0 (el (dig m)) (bxE (n := m)) rfl rfl) <|
    oc (k_al 1 alE rfl rfl) <|
    oz (k_mv (.inr rfl) rfl) <|
    ok_nil
  clear h; intro β a w h
  replace h := St.cs h (s' := [.inl (el (dig m)), .inr (0, pt 0), .inr (1, pt 0), .inl (.bool false), uu, uu, uu, uu, uu, uu, uu, uu, uu, uu, uu, uu, uu, uu, uu, uu, uu, uu, uu, uu, uu, uu, uu, uu]) (m' := [(ce m, 42), (ce 0, 42)]) (by kernel_rfl) (by kernel_rfl)
  refine sym_then ?_
  have ra := h.row 0 _ rfl
  have rr := h.row 1 _ rfl
  have hw := h.bel.below
  have o0 := Nat.le_of_not_lt (h.old 0 (by simp))
  have o1 := Nat.le_of_not_lt (h.old 1 (by simp))
  have n01 : β 0 ≠ β 1 := fun e => by have := h.inj 0 1 (by simp) (by simp) e; omega
  obtain rfl : a = { tmps := #[el (dig m), .pointer (some ⟨β 0, 0, none⟩), .pointer (some ⟨β 1, 0, none⟩), .bool false, undef, undef, undef, undef, undef, undef, undef, undef, undef, undef, undef, undef, undef, undef, undef, undef, undef, undef, undef, undef, undef, undef, undef, undef], defers := [] } := h.tm
  clear h
  refine seq_gen fun QQ hQQ => ?_
  go_wp2_with (refine wpList_load_agg rfl 42 (.tmp 1) rfl (β 0) _ _ rfl Tryd.underlying42 rfl (by kernel_rfl) ra ?_)
  refine (c1 _).mono ?_
  rintro e u1 ⟨b, rfl, hb, hb1, rb⟩
  have nb0 : β 0 ≠ b := by have := row_lt ra; omega
  have nb1 : β 1 ≠ b := by have := row_lt rr; omega
  have obb := Nat.le_trans hw.size hb
  replace ra := row_below ra hb1
  replace rr := row_below rr hb1
  replace hw := bnext hw hb1
  clear c1 hb1 hb
  go_wp2_with fail
  refine hQQ.out _ _ ?_
  clear hQQ QQ
  refine seq_gen fun QQ hQQ => ?_
  go_wp2_with (refine wpList_load_agg rfl 42 (.tmp 1) rfl (β 0) _ _ rfl Tryd.underlying42 rfl (by kernel_rfl) ra ?_)
  refine (c2 _).mono ?_
  rintro e u2 ⟨rfl, hb2⟩
  replace ra := row_below ra hb2
  replace rr := row_below rr hb2
  replace rb := row_below rb hb2
  replace hw := bnext hw hb2
  clear c2 hb2
  go_wp2_with fail
  refine (grow_d 2 b (by omega) (mod_pp _) (mod_pp _) _ _ rb).mono ?_
  rintro e u3 ⟨rfl, hmo, rb3⟩
  rw [← hR.out]
  replace hw := below_mod hw hmo obb
  replace ra := row_mod ra hmo nb0
  replace rr := row_mod rr hmo nb1
  have l0 := row_lt ra
  have l1 := row_lt rr
  replace ra := row_up (o := .cells (ce R) 42) ra
  replace rr := row_up (o := .cells (ce R) 42) rr
  go_wp2_with fail
  refine hQQ.out _ _ ?_
  clear hQQ QQ rb rb3 hmo
  have ry := row_new u3 (.cells (ce R) 42)
  have m0 : β 0 ≠ u3.heap.size := by omega
  have m1 : β 1 ≠ u3.heap.size := by omega
  refine with_st (st3 (W0 := W0) (s := [.inl (el (dig m)), .inr (0, pt 0), .inr (1, pt 0), .inl (.bool false), .inl (.func (.func 84) #[] #[.pointer (some ⟨b, 0, none⟩)]), .inr (2, pt 0), .inl (el (dig m)), .inl (.func (.func 84) #[] #[.pointer (some ⟨b, 0, none⟩)]), .inl (.func (.func 84) #[] #[.pointer (some ⟨b, 0, none⟩)]), .inl (el (dig m)), .inl (el (dig m)), .inl (el (dig (m * m % pp))), .inl (el (dig R)), uu, uu, uu, uu, uu, uu, uu, uu, uu, uu, uu, uu, uu, uu, uu]) (p := β 0) (q := β 1) (r := u3.heap.size) (by kernel_rfl) (below_up hw (.cells (ce R) 42)) ra rr ry o0 o1 (by have := hw.size; omega) n01 m0 m1 (by kernel_rfl)) ?_
  intro a h; replace h := h.o0
  by_cases h1 : R * R % pp = m
  · rw [aRt_t h1]
    refine sym_seq ?_
    refine sym_seq ?_
    refine St.r0 h [(13, .inl (el (dig R))), (14, .inl (el (dig R))), (15, .inl (el (dig (R * R % pp)))), (16, .inl (el (dig m))), (17, .inl (.bool true)), (18, .inl (.bool false))] [eR 2, eR 2, nn, eR 0] ?_ ?_
    · exact oc (k_ld 2 0 (el (dig R)) (c := ce R) (ldE (n := R) 42) rfl rfl) <|
      oc (k_ld 2 0 (el (dig R)) (c := ce R) (ldE (n := R) 42) rfl rfl) <|
      oc (k_ca 56 #[el (dig R), el (dig R)] (el (dig (R * R % pp))) (fun w => times_d hRl hRl w) rfl rfl) <|
      oc (k_ld 0 0 (el (dig m)) (c := ce m) (ldE (n := m) 42) rfl rfl) <|
      oz (k_ca 30 #[el (dig (R * R % pp)), el (dig m)] (.bool true) (fun w => is_t (mod_pp _) hm h1 w) rfl rfl) <|
      oz (k_nt true rfl rfl) <|
      ok_nil
    clear h; intro β a w h
    refine sym_then ?_
    refine s_cf h ?_
    refine wp_skip ?_
    refine sym_then ?_
    refine sym_seq ?_
    refine St.rg h [(22, .inl (el (dig R))), (23, .inl (el (dig R))), (24, .inl (el (dig R))), (25, .inl (el (dig (R * R % pp)))), (26, .inl (el (dig m))), (27, .inl (.bool (decide ((R * R % pp) = m)))), (3, .inl (.bool (decide ((R * R % pp) = m))))] [] [(1, ce R)] [eR 2, eR 2, eR 2, nn, eR 0, nn, eS 1] ?_ ?_
    · exact oc (k_ld 2 0 (el (dig R)) (c := ce R) (ldE (n := R) 42) rfl rfl) <|
      oc (k_ld 2 0 (el (dig R)) (c := ce R) (ldE (n := R) 42) rfl rfl) <|
      oc (k_ld 2 0 (el (dig R)) (c := ce R) (ldE (n := R) 42) rfl rfl) <|
      oc (k_ca 56 #[el (dig R), el (dig R)] (el (dig (R * R % pp))) (fun w => times_d hRl hRl w) rfl rfl) <|
      oc (k_ld 0 0 (el (dig m)) (c := ce m) (ldE (n := m) 42) rfl rfl) <|
      oc (k_ca 30 #[el (dig (R * R % pp)), el (dig m)] (.bool (decide ((R * R % pp) = m))) (fun w => is_d (mod_pp _) hm w) rfl rfl) <|
      oc (k_st 1 0 (el (dig R)) (c := ce 0) (n := ce R) (stE (n := R) (c := ce 0) 42 (ce_size _)) rfl rfl) <|
      oz (k_mv (.inr rfl) rfl) <|
      ok_nil
    clear h; intro β a w h
    refine sym_then ?_
    refine wp_ret ?_
    exact s_r2 (b := 1) (t0 := 42) (c := ce R) h Tryd.results73 Tryd.underlying42 (fun hb => ⟨rfl, hb⟩)
  · rw [hat _ _ h1]
    refine sym_seq ?_
    refine sym_seq ?_
    refine St.r0 h [(13, .inl (el (dig R))), (14, .inl (el (dig R))), (15, .inl (el (dig (R * R % pp)))), (16, .inl (el (dig m))), (17, .inl (.bool false)), (18, .inl (.bool true))] [eR 2, eR 2, nn, eR 0] ?_ ?_
    · exact oc (k_ld 2 0 (el (dig R)) (c := ce R) (ldE (n := R) 42) rfl rfl) <|
      oc (k_ld 2 0 (el (dig R)) (c := ce R) (ldE (n := R) 42) rfl rfl) <|
      oc (k_ca 56 #[el (dig R), el (dig R)] (el (dig (R * R % pp))) (fun w => times_d hRl hRl w) rfl rfl) <|
      oc (k_ld 0 0 (el (dig m)) (c := ce m) (ldE (n := m) 42) rfl rfl) <|
      oz (k_ca 30 #[el (dig (R * R % pp)), el (dig m)] (.bool false) (fun w => is_f (mod_pp _) hm h1 w) rfl rfl) <|
      oz (k_nt false rfl rfl) <|
      ok_nil
    clear h; intro β a w h
    refine sym_then ?_
    refine s_ct h ?_
    refine St.rg h [(19, .inl (el (dig R))), (20, .inl (el (dig i2))), (21, .inl (el (dig (R * i2 % pp))))] [] [(2, ce (R * i2 % pp))] [eR 2, nn, nn, eS 2] ?_ ?_
    · exact oc (k_ld 2 0 (el (dig R)) (c := ce R) (ldE (n := R) 42) rfl rfl) <|
      oc (k_ca 80 #[] (el (dig i2)) (fun w => c48 w) rfl rfl) <|
      oc (k_ca 56 #[el (dig R), el (dig i2)] (el (dig (R * i2 % pp))) (fun w => times_d hRl hi2l w) rfl rfl) <|
      oc (k_st 2 0 (el (dig (R * i2 % pp))) (c := ce R) (n := ce (R * i2 % pp)) (stE (n := (R * i2 % pp)) (c := ce R) 42 (ce_size _)) rfl rfl) <|
      ok_nil
    clear h; intro β a w h
    refine sym_then ?_
    refine sym_seq ?_
    refine St.rg h [(22, .inl (el (dig (R * i2 % pp)))), (23, .inl (el (dig (R * i2 % pp)))), (24, .inl (el (dig (R * i2 % pp)))), (25, .inl (el (dig ((R * i2 % pp) * (R * i2 % pp) % pp)))), (26, .inl (el (dig m))), (27, .inl (.bool (decide (((R * i2 % pp) * (R * i2 % pp) % pp) = m)))), (3, .inl (.bool (decide (((R * i2 % pp) * (R * i2 % pp) % pp) = m))))] [] [(1, ce (R * i2 % pp))] [eR 2, eR 2, eR 2, nn, eR 0, nn, eS 1] ?_ ?_
    · exact oc (k_ld 2 0 (el (dig (R * i2 % pp))) (c := ce (R * i2 % pp)) (ldE (n := (R * i2 % pp)) 42) rfl rfl) <|
      oc (k_ld 2 0 (el (dig (R * i2 % pp))) (c := ce (R * i2 % pp)) (ldE (n := (R * i2 % pp)) 42) rfl rfl) <|
      oc (k_ld 2 0 (el (dig (R * i2 % pp))) (c := ce (R * i2 % pp)) (ldE (n := (R * i2 % pp)) 42) rfl rfl) <|
      oc (k_ca 56 #[el (dig (R * i2 % pp)), el (dig (R * i2 % pp))] (el (dig ((R * i2 % pp) * (R * i2 % pp) % pp))) (fun w => times_d (mod_pp _) (mod_pp _) w) rfl rfl) <|
      oc (k_ld 0 0 (el (dig m)) (c := ce m) (ldE (n := m) 42) rfl rfl) <|
      oc (k_ca 30 #[el (dig ((R * i2 % pp) * (R * i2 % pp) % pp)), el (dig m)] (.bool (decide (((R * i2 % pp) * (R * i2 % pp) % pp) = m))) (fun w => is_d (mod_pp _) hm w) rfl rfl) <|
      oc (k_st 1 0 (el (dig (R * i2 % pp))) (c := ce 0) (n := ce (R * i2 % pp)) (stE (n := (R * i2 % pp)) (c := ce 0) 42 (ce_size _)) rfl rfl) <|
      oz (k_mv (.inr rfl) rfl) <|
      ok_nil
    clear h; intro β a w h
    refine sym_then ?_
    refine wp_ret ?_
    exact s_r2 (b := 1) (t0 := 42) (c := ce (R * i2 % pp)) h Tryd.results73 Tryd.underlying42 (fun hb => ⟨rfl, hb⟩)
end Go.Proofs.YtgojlikjcpnhjaaDoor

namespace Go.Proofs.YtgojlikjcpnhjaaDoor

theorem pp_prm : Prm pp := prmP
theorem dvd_of_mod_eq {a b n : Nat} (h : a % n = b % n) : n ∣ a - b := Nat.dvd_of_mod_eq_zero (Nat.sub_mod_eq_zero_of_mod_eq h)

theorem sq_le {S m : Nat} (hS : S < pp) (hm : m ≤ S) (h : S * S % pp = m * m % pp) : S = m ∨ S + m = pp := by
  have h1 : pp ∣ S * S - m * m := dvd_of_mod_eq h
  rw [Nat.mul_self_sub_mul_self_eq] at h1
  rcases pp_prm.euclid h1 with h2 | h2
  · by_cases e : S + m = 0
    · left; omega
    · right
      have := Nat.le_of_dvd (by omega) h2
      obtain ⟨c, hc⟩ := h2
      have : c = 1 := by
        rcases Nat.lt_or_ge c 2 with h | h
        · match c, h with
          | 0, _ => simp at hc; omega
          | 1, _ => rfl
        · have : pp * 2 ≤ pp * c := Nat.mul_le_mul_left _ h
          omega
      subst this; omega
  · left
    by_cases e : S - m = 0
    · omega
    · have := Nat.le_of_dvd (by omega) h2; omega
theorem sq_eq {S m : Nat} (hS : S < pp) (hm : m < pp) (h : S * S % pp = m * m % pp) : S = m ∨ S + m = pp := by
  rcases Nat.le_total m S with h1 | h1
  · exact sq_le hS h1 h
  · rcases sq_le hm h1 h.symm with h2 | h2
    · exact Or.inl h2.symm
    · right; omega

theorem neg_mul {S : Nat} (hS : S < pp) : S * (pp - 1) % pp = (pp - S) % pp := by
  have h : S * (pp - 1) + S = S * pp := by
    have := pp_pos
    rw [← Nat.mul_succ, Nat.succ_eq_add_one, Nat.sub_add_cancel this]
  rcases Nat.eq_zero_or_pos S with h0 | h0
  · subst h0; simp
  · have h2 : S * (pp - 1) = (pp - S) + (S - 1) * pp := by
      have h3 : S * pp = (S - 1) * pp + pp := by
        rw [← Nat.succ_mul, Nat.succ_eq_add_one, Nat.sub_add_cancel h0]
      omega
    rw [h2, Nat.add_mul_mod_self_right]

theorem iRt_sq : iRt * iRt % pp = pp - 1 := by decide +kernel

theorem sq_neg {y : Nat} (hy : y ≤ pp) : (pp - y) * (pp - y) % pp = y * y % pp := by
  obtain ⟨d, hd⟩ : ∃ d, pp = y + d := ⟨pp - y, by omega⟩
  have e1 : (pp - y) * (pp - y) + y * pp = y * y + (pp - y) * pp := by
    have e2 : pp - y = d := by omega
    rw [e2, hd, Nat.mul_add, Nat.mul_add, Nat.mul_comm d y]
    omega
  have h1 : ((pp - y) * (pp - y) + y * pp) % pp = (pp - y) * (pp - y) % pp := Nat.add_mul_mod_self_right _ _ _
  have h2 : (y * y + (pp - y) * pp) % pp = y * y % pp := Nat.add_mul_mod_self_right _ _ _
  rw [← h1, e1, h2]

/-- Where the power is 1 there is a root. -/
theorem root_of_one {m h k R : Nat} (hm : m < pp) (hk : 4 * k = h + 2) (h1 : m ^ h % pp = 1) (hR : R = m ^ k % pp) : aRt R m * aRt R m % pp = m := by
  have hS : (R * R % pp) * (R * R % pp) % pp = m * m % pp := by
    have e : (R * R % pp) * (R * R % pp) % pp = m ^ (4 * k) % pp := by
      rw [← Nat.mul_mod, hR, ← Nat.mul_mod_mod, ← Nat.mod_mul_mod]
      have e1 : m ^ k % pp * (m ^ k % pp) % pp = m ^ (k + k) % pp := by rw [← Nat.mul_mod, Nat.pow_add]
      rw [e1, ← Nat.mul_mod, ← Nat.pow_add]
      congr 2
      omega
    rw [e, hk, Nat.pow_add, ← Nat.mod_mul_mod, h1, Nat.one_mul, Nat.pow_two]
  rcases sq_eq (mod_pp _) hm hS with h2 | h2
  · rw [aRt_t h2]; exact h2
  · by_cases h3 : R * R % pp = m
    · rw [aRt_t h3]; exact h3
    · rw [aRt_f h3]
      have e2 : R * iRt * (R * iRt) = R * R * (iRt * iRt) := by
        rw [Nat.mul_assoc, Nat.mul_assoc]; congr 1
        rw [← Nat.mul_assoc, ← Nat.mul_assoc, Nat.mul_comm iRt R]
      rw [← Nat.mul_mod, e2, ← Nat.mod_mul_mod, ← Nat.mul_mod_mod, iRt_sq, neg_mul (mod_pp _)]
      have : pp - R * R % pp = m := by omega
      rw [this, Nat.mod_eq_of_lt hm]
theorem one_of_root {m y h : Nat} (hh : 2 * h + 1 = pp) (h0 : m ≠ 0) (hy : y * y % pp = m) : m ^ h % pp = 1 := by
  have hd : ¬ pp ∣ y := by
    rintro ⟨c, rfl⟩
    rw [Nat.mul_assoc, Nat.mul_mod_right] at hy
    exact h0 hy.symm
  have hf := fermat pp_prm y hd
  rw [← hy, ← Nat.pow_mod, ← Nat.pow_two, ← Nat.pow_mul]
  rw [show 2 * h = pp - 1 by omega]; exact hf
theorem pm_one {m h : Nat} (hh : 2 * h + 1 = pp) (hm : m < pp) (h0 : m ≠ 0) : m ^ h % pp = 1 ∨ m ^ h % pp = pp - 1 := by
  have hd : ¬ pp ∣ m := fun hd => by have := Nat.le_of_dvd (by omega) hd; omega
  have hf := fermat pp_prm m hd
  have hS : (m ^ h % pp) * (m ^ h % pp) % pp = 1 * 1 % pp := by
    rw [← Nat.mul_mod, ← Nat.pow_add, show h + h = pp - 1 by omega, hf]; rfl
  have h1p : 1 < pp := by decide +kernel
  rcases sq_eq (mod_pp _) h1p hS with h1 | h1
  · exact Or.inl h1
  · right; omega
theorem mul_pow_mod {a b h : Nat} : (a * b % pp) ^ h % pp = (a ^ h % pp) * (b ^ h % pp) % pp := by
  rw [← Nat.pow_mod, Nat.mul_pow, ← Nat.mul_mod]
theorem mul_ne {a b : Nat} (ha : a < pp) (hb : b < pp) (h1 : a ≠ 0) (h2 : b ≠ 0) : a * b % pp ≠ 0 := by
  intro h
  rcases pp_prm.euclid (Nat.dvd_of_mod_eq_zero h) with h3 | h3
  · have := Nat.le_of_dvd (by omega) h3; omega
  · have := Nat.le_of_dvd (by omega) h3; omega

/-- The even one of a number and its opposite. -/
def evn (y : Nat) : Nat := if y % 2 = 0 then y else (0 + (pp - y)) % pp
theorem evn_t {y : Nat} (h : y % 2 = 0) : evn y = y := if_pos h
theorem evn_f {y : Nat} (h : ¬ y % 2 = 0) : evn y = (0 + (pp - y)) % pp := if_neg h
theorem pp_odd : pp % 2 = 1 := by decide +kernel
theorem evn_spec {y : Nat} (hy : y < pp) : evn y < pp ∧ evn y % 2 = 0 ∧ evn y * evn y % pp = y * y % pp := by
  by_cases h : y % 2 = 0
  · rw [evn_t h]; exact ⟨hy, h, rfl⟩
  · have h1 : (0 + (pp - y)) % pp = pp - y := by rw [Nat.zero_add, Nat.mod_eq_of_lt (by omega)]
    rw [evn_f h, h1]
    have := pp_odd
    exact ⟨by omega, by omega, sq_neg (by omega)⟩
end Go.Proofs.YtgojlikjcpnhjaaDoor

namespace Go.Proofs.YtgojlikjcpnhjaaDoor
open Go.RowKit

theorem root_no {m y : Nat} (c1 : ∀ w, Calls Tryd.prog 73 #[el (dig m)] w fun e w' => e = .returned (.tuple #[el (dig y), .bool false]) ∧ Below w.heap.size w w') (w : World) :
    Calls Tryd.prog 59 #[el (dig m)] w fun e w' => e = .returned (.tuple #[el (dig 0), .bool false]) ∧ Below w.heap.size w w' := by
    refine s_in Tryd.func59 Tryd.ntmps59 rfl [.inl (el (dig m))] ?_
    intro β a h
    refine sym_seq ?_
    refine St.rg h [(1, .inr (0, pt 0)), (2, .inr (1, pt 0)), (3, .inl (.bool false))] [(ce m, 42), (ce 0, 42)] [] [eN 0, eN 1] ?_ ?_
    · exact oc (k_bx 0 (el (dig m)) (bxE (n := m)) rfl rfl) <|
      oc (k_al 1 alE rfl rfl) <|
      oz (k_mv (.inr rfl) rfl) <|
      ok_nil
    clear h; intro β a w h
    refine sym_then ?_
    refine sym_seq ?_
    refine St.rg h [(7, .inl (el (dig m))), (8, .inl (.tuple #[el (dig y), .bool false])), (6, .inl (.tuple #[el (dig y), .bool false])), (9, .inl (el (dig y))), (10, .inl (.bool false)), (4, .inr (2, pt 0)), (5, .inl (.bool false))] [(ce 0, 42)] [(2, ce y)] [eR 0, nn, nn, nn, nn, eN 2, eS 2] ?_ ?_
    · exact oc (k_ld 0 0 (el (dig m)) (c := ce m) (ldE (n := m) 42) rfl rfl) <|
      oc (k_ca 73 #[el (dig m)] (.tuple #[el (dig y), .bool false]) c1 rfl rfl) <|
      oc (k_mv (.inl rfl) rfl) <|
      oc (k_ex (.tuple #[el (dig y), .bool false]) (el (dig y)) rfl rfl) <|
      oc (k_ex (.tuple #[el (dig y), .bool false]) (.bool false) rfl rfl) <|
      oc (k_al 2 alE rfl rfl) <|
      oc (k_st 2 0 (el (dig y)) (c := ce 0) (n := ce y) (stE (n := y) (c := ce 0) 42 (ce_size _)) rfl rfl) <|
      oz (k_mv (.inr rfl) rfl) <|
      ok_nil
    clear h; intro β a w h
    refine sym_then ?_
    refine sym_seq ?_
    refine sym_seq ?_
    refine St.r0 h [(11, .inl (.bool false)), (12, .inl (.bool true))] [] ?_ ?_
    · exact oz (k_mv (.inl rfl) rfl) <|
      oz (k_nt false rfl rfl) <|
      ok_nil
    clear h; intro β a w h
    refine sym_then ?_
    refine s_ct h ?_
    refine sym_seq ?_
    refine St.rg h [(13, .inl (el (dig 0)))] [] [(1, ce 0)] [nn, eS 1] ?_ ?_
    · exact oc (k_bu #[] (el (dig 0)) bdE rfl rfl) <|
      oc (k_st 1 0 (el (dig 0)) (c := ce 0) (n := ce 0) (stE (n := 0) (c := ce 0) 42 (ce_size _)) rfl rfl) <|
      oz (k_mv (.inr rfl) rfl) <|
      ok_nil
    clear h; intro β a w h
    refine sym_then ?_
    refine wp_ret ?_
    refine then_ret ?_
    exact s_r2 (b := 1) (t0 := 42) (c := ce 0) h Tryd.results59 Tryd.underlying42 (fun hb => ⟨rfl, hb⟩)
theorem root_ev {m y : Nat} (hy : y < pp) (hev : decide (y % 2 = 0) = true) (c1 : ∀ w, Calls Tryd.prog 73 #[el (dig m)] w fun e w' => e = .returned (.tuple #[el (dig y), .bool true]) ∧ Below w.heap.size w w') (w : World) :
    Calls Tryd.prog 59 #[el (dig m)] w fun e w' => e = .returned (.tuple #[el (dig y), .bool true]) ∧ Below w.heap.size w w' := by
    refine s_in Tryd.func59 Tryd.ntmps59 rfl [.inl (el (dig m))] ?_
    intro β a h
    refine sym_seq ?_
    refine St.rg h [(1, .inr (0, pt 0)), (2, .inr (1, pt 0)), (3, .inl (.bool false))] [(ce m, 42), (ce 0, 42)] [] [eN 0, eN 1] ?_ ?_
    · exact oc (k_bx 0 (el (dig m)) (bxE (n := m)) rfl rfl) <|
      oc (k_al 1 alE rfl rfl) <|
      oz (k_mv (.inr rfl) rfl) <|
      ok_nil
    clear h; intro β a w h
    refine sym_then ?_
    refine sym_seq ?_
    refine St.rg h [(7, .inl (el (dig m))), (8, .inl (.tuple #[el (dig y), .bool true])), (6, .inl (.tuple #[el (dig y), .bool true])), (9, .inl (el (dig y))), (10, .inl (.bool true)), (4, .inr (2, pt 0)), (5, .inl (.bool true))] [(ce 0, 42)] [(2, ce y)] [eR 0, nn, nn, nn, nn, eN 2, eS 2] ?_ ?_
    · exact oc (k_ld 0 0 (el (dig m)) (c := ce m) (ldE (n := m) 42) rfl rfl) <|
      oc (k_ca 73 #[el (dig m)] (.tuple #[el (dig y), .bool true]) c1 rfl rfl) <|
      oc (k_mv (.inl rfl) rfl) <|
      oc (k_ex (.tuple #[el (dig y), .bool true]) (el (dig y)) rfl rfl) <|
      oc (k_ex (.tuple #[el (dig y), .bool true]) (.bool true) rfl rfl) <|
      oc (k_al 2 alE rfl rfl) <|
      oc (k_st 2 0 (el (dig y)) (c := ce 0) (n := ce y) (stE (n := y) (c := ce 0) 42 (ce_size _)) rfl rfl) <|
      oz (k_mv (.inr rfl) rfl) <|
      ok_nil
    clear h; intro β a w h
    refine sym_then ?_
    refine sym_seq ?_
    refine sym_seq ?_
    refine St.r0 h [(11, .inl (.bool true)), (12, .inl (.bool false))] [] ?_ ?_
    · exact oz (k_mv (.inl rfl) rfl) <|
      oz (k_nt true rfl rfl) <|
      ok_nil
    clear h; intro β a w h
    refine sym_then ?_
    refine s_cf h ?_
    refine wp_skip ?_
    refine sym_then ?_
    refine sym_seq ?_
    refine sym_seq ?_
    refine St.r0 h [(14, .inl (el (dig y))), (15, .inl (.bool true)), (16, .inl (.bool false))] [eR 2] ?_ ?_
    · exact oc (k_ld 2 0 (el (dig y)) (c := ce y) (ldE (n := y) 42) rfl rfl) <|
      oz (k_ca 42 #[el (dig y)] (.bool true) (fun w => even_b hy hev w) rfl rfl) <|
      oz (k_nt true rfl rfl) <|
      ok_nil
    clear h; intro β a w h
    refine sym_then ?_
    refine s_cf h ?_
    refine wp_skip ?_
    refine sym_then ?_
    refine sym_seq ?_
    refine St.rg h [(20, .inl (el (dig y))), (3, .inl (.bool true))] [] [(1, ce y)] [eR 2, eS 1] ?_ ?_
    · exact oc (k_ld 2 0 (el (dig y)) (c := ce y) (ldE (n := y) 42) rfl rfl) <|
      oc (k_st 1 0 (el (dig y)) (c := ce 0) (n := ce y) (stE (n := y) (c := ce 0) 42 (ce_size _)) rfl rfl) <|
      oz (k_mv (.inr rfl) rfl) <|
      ok_nil
    clear h; intro β a w h
    refine sym_then ?_
    refine wp_ret ?_
    exact s_r2 (b := 1) (t0 := 42) (c := ce y) h Tryd.results59 Tryd.underlying42 (fun hb => ⟨rfl, hb⟩)
theorem root_od {m y : Nat} (hy : y < pp) (hev : decide (y % 2 = 0) = false) (c1 : ∀ w, Calls Tryd.prog 73 #[el (dig m)] w fun e w' => e = .returned (.tuple #[el (dig y), .bool true]) ∧ Below w.heap.size w w') (w : World) :
    Calls Tryd.prog 59 #[el (dig m)] w fun e w' => e = .returned (.tuple #[el (dig ((0 + (pp - y)) % pp)), .bool true]) ∧ Below w.heap.size w w' := by
    refine s_in Tryd.func59 Tryd.ntmps59 rfl [.inl (el (dig m))] ?_
    intro β a h
    refine sym_seq ?_
    refine St.rg h [(1, .inr (0, pt 0)), (2, .inr (1, pt 0)), (3, .inl (.bool false))] [(ce m, 42), (ce 0, 42)] [] [eN 0, eN 1] ?_ ?_
    · exact oc (k_bx 0 (el (dig m)) (bxE (n := m)) rfl rfl) <|
      oc (k_al 1 alE rfl rfl) <|
      oz (k_mv (.inr rfl) rfl) <|
      ok_nil
    clear h; intro β a w h
    refine sym_then ?_
    refine sym_seq ?_
    refine St.rg h [(7, .inl (el (dig m))), (8, .inl (.tuple #[el (dig y), .bool true])), (6, .inl (.tuple #[el (dig y), .bool true])), (9, .inl (el (dig y))), (10, .inl (.bool true)), (4, .inr (2, pt 0)), (5, .inl (.bool true))] [(ce 0, 42)] [(2, ce y)] [eR 0, nn, nn, nn, nn, eN 2, eS 2] ?_ ?_
    · exact oc (k_ld 0 0 (el (dig m)) (c := ce m) (ldE (n := m) 42) rfl rfl) <|
      oc (k_ca 73 #[el (dig m)] (.tuple #[el (dig y), .bool true]) c1 rfl rfl) <|
      oc (k_mv (.inl rfl) rfl) <|
      oc (k_ex (.tuple #[el (dig y), .bool true]) (el (dig y)) rfl rfl) <|
      oc (k_ex (.tuple #[el (dig y), .bool true]) (.bool true) rfl rfl) <|
      oc (k_al 2 alE rfl rfl) <|
      oc (k_st 2 0 (el (dig y)) (c := ce 0) (n := ce y) (stE (n := y) (c := ce 0) 42 (ce_size _)) rfl rfl) <|
      oz (k_mv (.inr rfl) rfl) <|
      ok_nil
    clear h; intro β a w h
    refine sym_then ?_
    refine sym_seq ?_
    refine sym_seq ?_
    refine St.r0 h [(11, .inl (.bool true)), (12, .inl (.bool false))] [] ?_ ?_
    · exact oz (k_mv (.inl rfl) rfl) <|
      oz (k_nt true rfl rfl) <|
      ok_nil
    clear h; intro β a w h
    refine sym_then ?_
    refine s_cf h ?_
    refine wp_skip ?_
    refine sym_then ?_
    refine sym_seq ?_
    refine sym_seq ?_
    refine St.r0 h [(14, .inl (el (dig y))), (15, .inl (.bool false)), (16, .inl (.bool true))] [eR 2] ?_ ?_
    · exact oc (k_ld 2 0 (el (dig y)) (c := ce y) (ldE (n := y) 42) rfl rfl) <|
      oz (k_ca 42 #[el (dig y)] (.bool false) (fun w => even_b hy hev w) rfl rfl) <|
      oz (k_nt false rfl rfl) <|
      ok_nil
    clear h; intro β a w h
    refine sym_then ?_
    refine s_ct h ?_
    refine St.rg h [(17, .inl (el (dig 0))), (18, .inl (el (dig y))), (19, .inl (el (dig ((0 + (pp - y)) % pp))))] [] [(2, ce ((0 + (pp - y)) % pp))] [nn, eR 2, nn, eS 2] ?_ ?_
    · exact oc (k_bu #[] (el (dig 0)) bdE rfl rfl) <|
      oc (k_ld 2 0 (el (dig y)) (c := ce y) (ldE (n := y) 42) rfl rfl) <|
      oc (k_ca 31 #[el (dig 0), el (dig y)] (el (dig ((0 + (pp - y)) % pp))) (fun w => minus_d (by decide +kernel) hy w) rfl rfl) <|
      oc (k_st 2 0 (el (dig ((0 + (pp - y)) % pp))) (c := ce y) (n := ce ((0 + (pp - y)) % pp)) (stE (n := ((0 + (pp - y)) % pp)) (c := ce y) 42 (ce_size _)) rfl rfl) <|
      ok_nil
    clear h; intro β a w h
    refine sym_then ?_
    refine sym_seq ?_
    refine St.rg h [(20, .inl (el (dig ((0 + (pp - y)) % pp)))), (3, .inl (.bool true))] [] [(1, ce ((0 + (pp - y)) % pp))] [eR 2, eS 1] ?_ ?_
    · exact oc (k_ld 2 0 (el (dig ((0 + (pp - y)) % pp))) (c := ce ((0 + (pp - y)) % pp)) (ldE (n := ((0 + (pp - y)) % pp)) 42) rfl rfl) <|
      oc (k_st 1 0 (el (dig ((0 + (pp - y)) % pp))) (c := ce 0) (n := ce ((0 + (pp - y)) % pp)) (stE (n := ((0 + (pp - y)) % pp)) (c := ce 0) 42 (ce_size _)) rfl rfl) <|
      oz (k_mv (.inr rfl) rfl) <|
      ok_nil
    clear h; intro β a w h
    refine sym_then ?_
    refine wp_ret ?_
    exact s_r2 (b := 1) (t0 := 42) (c := ce ((0 + (pp - y)) % pp)) h Tryd.results59 Tryd.underlying42 (fun hb => ⟨rfl, hb⟩)

theorem hexp : ∃ h : Nat, 2 * h + 1 = pp ∧ ∀ k : Nat, k = 7237005577332262213973186563042994240829374041602535252466099000494570602494 → 4 * k = h + 2 :=
  ⟨28948022309329048855892746252171976963317496166410141009864396001978282409974, by unfold pp; omega, fun k hk => by subst hk; omega⟩

/-- Root: an even root and true, or nothing and false where there is none. -/
theorem root_d {m : Nat} (hm : m < pp) : ∃ (r : Nat) (b : Bool), r < pp ∧ (b = true → r * r % pp = m ∧ r % 2 = 0) ∧ (b = false → r = 0 ∧ ∀ x, x * x % pp ≠ m) ∧
    ∀ w, Calls Tryd.prog 59 #[el (dig m)] w fun e w' => e = .returned (.tuple #[el (dig r), .bool b]) ∧ Below w.heap.size w w' := by
  obtain ⟨k, hk, c⟩ := anyRoot_d hm
  obtain ⟨h, hh, h4⟩ := hexp
  have h4 := h4 k hk.out
  have hy : aRt (m ^ k % pp) m < pp := aRt_lt (mod_pp _)
  have hone : m ^ h % pp = 1 → aRt (m ^ k % pp) m * aRt (m ^ k % pp) m % pp = m := fun h1 => root_of_one hm h4 h1 rfl
  have hzero : m = 0 → aRt (m ^ k % pp) m * aRt (m ^ k % pp) m % pp = m := by
    intro e
    subst e
    have hk0 : 0 < k := by omega
    have e0 : 0 ^ k % pp = 0 := by rw [Nat.zero_pow hk0]; exact Nat.zero_mod _
    rw [e0, aRt_t (by simp)]; simp
  generalize aRt (m ^ k % pp) m = y at *
  by_cases hb : y * y % pp = m
  · rw [decide_eq_true hb] at c
    obtain ⟨s1, s2, s3⟩ := evn_spec hy
    refine ⟨evn y, true, s1, fun _ => ⟨by rw [s3]; exact hb, s2⟩, fun h => (by cases h), fun w => ?_⟩
    by_cases he : y % 2 = 0
    · rw [evn_t he]; exact root_ev hy (decide_eq_true he) c w
    · rw [evn_f he]; exact root_od hy (decide_eq_false he) c w
  · rw [decide_eq_false hb] at c
    refine ⟨0, false, pp_pos, fun h => (by cases h), fun _ => ⟨rfl, fun x hx => hb ?_⟩, root_no c⟩
    by_cases h0 : m = 0
    · exact hzero h0
    · exact hone (one_of_root hh h0 hx)
end Go.Proofs.YtgojlikjcpnhjaaDoor

namespace Go.Proofs.YtgojlikjcpnhjaaDoor
open Go.RowKit

theorem ldP {a b : Nat} (t0 : TypeId) (w : World) (q : Nat) (h : w.heap[q]? = some (.cells (ces [a, b]) t0 (0, 0))) : (Instr.loadAt 44 (.pointer (some ⟨q, 0, none⟩))).run Tryd.prog w = .ok (.agg (ces [a, b])) w :=
  ld_row (c := ces [a, b]) Tryd.underlying44 rfl (by rw [ces_size]; kernel_rfl) w q h
theorem stP {a b : Nat} {c : Array Value} (t0 : TypeId) (hc : c.size = 8) (w : World) (q : Nat) (h : w.heap[q]? = some (.cells c t0 (0, 0))) : (Instr.storeAt 44 (.pointer (some ⟨q, 0, none⟩)) (.agg (ces [a, b]))).run Tryd.prog w = .ok () (w.setRow q (ces [a, b])) :=
  st_row (n := ces [a, b]) (by rw [ces_size]; kernel_rfl) (by rw [hc, ces_size]; rfl) (ces_one _) w q h
theorem bxP {a b : Nat} (w : World) : (Instr.box 44 (.agg (ces [a, b]))).run Tryd.prog w = .ok (.pointer (some ⟨w.heap.size, 0, none⟩)) (w.alloc (.cells (ces [a, b]) 44)) := bx_agg w
theorem alP (w : World) : (Instr.alloc 44 true (.tuple #[])).run Tryd.prog w = .ok (.pointer (some ⟨w.heap.size, 0, none⟩)) (w.alloc (.cells (ces [0, 0]) 44)) := by
  simp [Instr.alloc, go_sem]
  rfl
theorem bdP0 (w : World) : (Instr.build 44 #[]).run Tryd.prog w = .ok (.agg (ces [0, 0])) w := by kernel_rfl
theorem bdP {a b : Nat} (w : World) : (Instr.build 44 #[(0, el (dig a)), (1, el (dig b))]).run Tryd.prog w = .ok (.agg (ces [a, b])) w := by kernel_rfl
theorem ldS {a b c d : Nat} (t0 : TypeId) (w : World) (q : Nat) (h : w.heap[q]? = some (.cells (ces [a, b, c, d]) t0 (0, 0))) : (Instr.loadAt 69 (.pointer (some ⟨q, 0, none⟩))).run Tryd.prog w = .ok (.agg (ces [a, b, c, d])) w :=
  ld_row (c := ces [a, b, c, d]) Tryd.underlying69 rfl (by rw [ces_size]; kernel_rfl) w q h
theorem stS {a b c d : Nat} {e : Array Value} (t0 : TypeId) (hc : e.size = 16) (w : World) (q : Nat) (h : w.heap[q]? = some (.cells e t0 (0, 0))) : (Instr.storeAt 69 (.pointer (some ⟨q, 0, none⟩)) (.agg (ces [a, b, c, d]))).run Tryd.prog w = .ok () (w.setRow q (ces [a, b, c, d])) :=
  st_row (n := ces [a, b, c, d]) (by rw [ces_size]; kernel_rfl) (by rw [hc, ces_size]; rfl) (ces_one _) w q h
theorem bxS {a b c d : Nat} (w : World) : (Instr.box 69 (.agg (ces [a, b, c, d]))).run Tryd.prog w = .ok (.pointer (some ⟨w.heap.size, 0, none⟩)) (w.alloc (.cells (ces [a, b, c, d]) 69)) := bx_agg w
theorem alS (w : World) : (Instr.alloc 69 true (.tuple #[])).run Tryd.prog w = .ok (.pointer (some ⟨w.heap.size, 0, none⟩)) (w.alloc (.cells (ces [0, 0, 0, 0]) 69)) := by
  simp [Instr.alloc, go_sem]
  rfl
theorem bdS {a b c d : Nat} (w : World) : (Instr.build 69 #[(0, el (dig a)), (1, el (dig b)), (2, el (dig c)), (3, el (dig d))]).run Tryd.prog w = .ok (.agg (ces [a, b, c, d])) w := by kernel_rfl
theorem bxL {a : Nat} (w : World) : (Instr.box 74 (.agg (ces [a]))).run Tryd.prog w = .ok (.pointer (some ⟨w.heap.size, 0, none⟩)) (w.alloc (.cells (ces [a]) 74)) := bx_agg w
theorem stL {a : Nat} {e : Array Value} (t0 : TypeId) (hc : e.size = 4) (w : World) (q : Nat) (h : w.heap[q]? = some (.cells e t0 (0, 0))) : (Instr.storeAt 74 (.pointer (some ⟨q, 0, none⟩)) (.agg (ces [a]))).run Tryd.prog w = .ok () (w.setRow q (ces [a])) :=
  st_row (n := ces [a]) (by rw [ces_size]; kernel_rfl) (by rw [hc, ces_size]; rfl) (ces_one _) w q h
theorem alL (w : World) : (Instr.alloc 74 true (.tuple #[])).run Tryd.prog w = .ok (.pointer (some ⟨w.heap.size, 0, none⟩)) (w.alloc (.cells (ces [0]) 74)) := by
  simp [Instr.alloc, go_sem]
  rfl
theorem bdL {a : Nat} (w : World) : (Instr.build 74 #[(0, el (dig a))]).run Tryd.prog w = .ok (.agg (ces [a])) w := by kernel_rfl

/-- The contracts, each answer under a name. -/
theorem plus_v {m n : Nat} (hm : m < pp) (hn : n < pp) : ∃ r : Nat, Hid (r = (m + n) % pp) ∧ r < pp ∧ ∀ w, Calls Tryd.prog 58 #[el (dig m), el (dig n)] w fun e w' => e = .returned (el (dig r)) ∧ Below w.heap.size w w' :=
  ⟨_, hide1 rfl, mod_pp _, plus_d hm hn⟩
theorem minus_v {m n : Nat} (hm : m < pp) (hn : n < pp) : ∃ r : Nat, Hid (r = (m + (pp - n)) % pp) ∧ r < pp ∧ ∀ w, Calls Tryd.prog 31 #[el (dig m), el (dig n)] w fun e w' => e = .returned (el (dig r)) ∧ Below w.heap.size w w' :=
  ⟨_, hide1 rfl, mod_pp _, minus_d hm hn⟩
theorem times_v {m n : Nat} (hm : m < pp) (hn : n < pp) : ∃ r : Nat, Hid (r = m * n % pp) ∧ r < pp ∧ ∀ w, Calls Tryd.prog 56 #[el (dig m), el (dig n)] w fun e w' => e = .returned (el (dig r)) ∧ Below w.heap.size w w' :=
  ⟨_, hide1 rfl, mod_pp _, times_d hm hn⟩
/-- A number's inverse; of 0 it is 0. -/
def inv (n : Nat) : Nat := pmod n pp 255 (pp - 2)
theorem inv_pow_eq {n k : Nat} (hk : k = 57896044618658097711785492504343953926634992332820282019728792003956564819947) : n ^ k % pp = inv n := by
  have e : pp - 2 = k := by rw [hk]; decide +kernel
  have h : k < 2 ^ 255 := by rw [hk]; decide +kernel
  unfold inv
  rw [e, pmod_eq n pp 255 k h]
theorem inv_lt (n : Nat) : inv n < pp := by
  obtain ⟨k, hk⟩ : ∃ k : Nat, k = 57896044618658097711785492504343953926634992332820282019728792003956564819947 := ⟨_, rfl⟩
  rw [← inv_pow_eq hk]; exact mod_pp _
theorem inv_mul {n : Nat} (hn : n < pp) (h : n ≠ 0) : n * inv n % pp = 1 := by
  obtain ⟨k, hk⟩ : ∃ k : Nat, k = 57896044618658097711785492504343953926634992332820282019728792003956564819947 := ⟨_, rfl⟩
  rw [← inv_pow_eq hk]; exact inv_one hn h hk
theorem over_i {m n : Nat} (hm : m < pp) (hn : n < pp) (w : World) : Calls Tryd.prog 34 #[el (dig m), el (dig n)] w fun e w' => e = .returned (el (dig (m * inv n % pp))) ∧ Below w.heap.size w w' := by
  obtain ⟨k, hk, c⟩ := over_d hm hn
  have := c w
  rwa [inv_pow_eq hk.out] at this
theorem over_v {m n : Nat} (hm : m < pp) (hn : n < pp) : ∃ r : Nat, Hid (r = m * inv n % pp) ∧ r < pp ∧ ∀ w, Calls Tryd.prog 34 #[el (dig m), el (dig n)] w fun e w' => e = .returned (el (dig r)) ∧ Below w.heap.size w w' :=
  ⟨_, hide1 rfl, mod_pp _, over_i hm hn⟩

/-- A key that is written out. -/
def kl (l : List Nat) (i : Nat) : Nat := l.getD i 0
theorem kl_lt {l : List Nat} (h : l.all (fun n => Nat.blt n 256) = true) (i : Nat) : kl l i < 256 := by
  unfold kl
  by_cases hi : i < l.length
  · have := List.all_eq_true.1 h l[i] (List.getElem_mem hi)
    rw [List.getD_eq_getElem?_getD, List.getElem?_eq_getElem hi]
    exact Nat.le_of_ble_eq_true this
  · rw [List.getD_eq_getElem?_getD, List.getElem?_eq_none (by omega)]
    show 0 < 256; omega
/-- The curve's number. -/
def dN : Nat := 37095705934669439343138083508754565189542113879843219016388785533085940283555
def gX : Nat := 15112221349535400772501151409588531511454012693041857206046113283949847762202
end Go.Proofs.YtgojlikjcpnhjaaDoor

namespace Go.Proofs.YtgojlikjcpnhjaaDoor
open Go.RowKit

def ad (m n : Nat) : Nat := (m + n) % pp
def sb (m n : Nat) : Nat := (m + (pp - n)) % pp
def mu (m n : Nat) : Nat := m * n % pp
theorem ad_lt (m n : Nat) : ad m n < pp := mod_pp _
theorem sb_lt (m n : Nat) : sb m n < pp := mod_pp _
theorem mu_lt (m n : Nat) : mu m n < pp := mod_pp _
theorem zero_ltp : 0 < pp := pp_pos
theorem one_ltp : 1 < pp := by decide +kernel
theorem two_ltp : 2 < pp := by decide +kernel
theorem four_ltp : 4 < pp := by decide +kernel
theorem five_ltp : 5 < pp := by decide +kernel
theorem plus_m {m n : Nat} (hm : m < pp) (hn : n < pp) (w : World) : Calls Tryd.prog 58 #[el (dig m), el (dig n)] w fun e w' => e = .returned (el (dig (ad m n))) ∧ Below w.heap.size w w' := plus_d hm hn w
theorem minus_m {m n : Nat} (hm : m < pp) (hn : n < pp) (w : World) : Calls Tryd.prog 31 #[el (dig m), el (dig n)] w fun e w' => e = .returned (el (dig (sb m n))) ∧ Below w.heap.size w w' := minus_d hm hn w
theorem times_m {m n : Nat} (hm : m < pp) (hn : n < pp) (w : World) : Calls Tryd.prog 56 #[el (dig m), el (dig n)] w fun e w' => e = .returned (el (dig (mu m n))) ∧ Below w.heap.size w w' := times_d hm hn w
theorem over_m {m n : Nat} (hm : m < pp) (hn : n < pp) (w : World) : Calls Tryd.prog 34 #[el (dig m), el (dig n)] w fun e w' => e = .returned (el (dig (mu m (inv n)))) ∧ Below w.heap.size w w' := over_i hm hn w
theorem int_m {m : Nat} (h : m < 9223372036854775808) (w : World) : Calls Tryd.prog 33 #[.int .i64 ((m : Nat) : Int)] w fun e w' => e = .returned (el (dig m)) ∧ Below w.heap.size w w' := int_pos_d h w
theorem dN_lt : dN < pp := by decide +kernel
theorem gX_lt : gX < pp := by decide +kernel
theorem or_b {x u : Operand} {m : Nat} (h : m < 128) (w : World) : (do eqGuard .or 5 x u (.int .u8 ((m : Nat) : Int)) (.int .u8 ((128 : Nat) : Int)); binOp .or 5 (.int .u8 ((m : Nat) : Int)) (.int .u8 ((128 : Nat) : Int))).run Tryd.prog w = .ok (.int .u8 ((m + 128 : Nat) : Int)) w := by
  have h1 : ∀ k, k < 128 → bits .or .u8 ((k : Nat) : Int) 128 = ((k + 128 : Nat) : Int) := by decide +kernel
  have h2 := h1 m h
  simp [eqGuard, binOp, go_sem, h2]
theorem and_b {x u : Operand} {m : Nat} (h : m < 256) (w : World) : (do eqGuard .and 5 x u (.int .u8 ((m : Nat) : Int)) (.int .u8 ((128 : Nat) : Int)); binOp .and 5 (.int .u8 ((m : Nat) : Int)) (.int .u8 ((128 : Nat) : Int))).run Tryd.prog w = .ok (.int .u8 ((m / 128 * 128 : Nat) : Int)) w := by
  have h1 : ∀ k, k < 256 → bits .and .u8 ((k : Nat) : Int) 128 = ((k / 128 * 128 : Nat) : Int) := by decide +kernel
  have h2 := h1 m h
  simp [eqGuard, binOp, go_sem, h2]
theorem an_b {x u : Operand} {m : Nat} (h : m < 256) (w : World) : (do eqGuard .andNot 5 x u (.int .u8 ((m : Nat) : Int)) (.int .u8 ((128 : Nat) : Int)); binOp .andNot 5 (.int .u8 ((m : Nat) : Int)) (.int .u8 ((128 : Nat) : Int))).run Tryd.prog w = .ok (.int .u8 ((m % 128 : Nat) : Int)) w := by
  have h1 : ∀ k, k < 256 → bits .andNot .u8 ((k : Nat) : Int) 128 = ((k % 128 : Nat) : Int) := by decide +kernel
  have h2 := h1 m h
  simp [eqGuard, binOp, go_sem, h2]
theorem ne_b {x u : Operand} {m n : Nat} {b : Bool} (h : decide (¬ m = n) = b) (w : World) : (do eqGuard .neq 5 x u (.int .u8 ((m : Nat) : Int)) (.int .u8 ((n : Nat) : Int)); binOp .neq 5 (.int .u8 ((m : Nat) : Int)) (.int .u8 ((n : Nat) : Int))).run Tryd.prog w = .ok (.bool b) w := by
  have h1 : (((m : Nat) : Int) != ((n : Nat) : Int)) = b := by rw [← h, Bool.eq_iff_iff]; simp; omega
  simp [eqGuard, binOp, go_sem, h1]
theorem eq_b {x u : Operand} {m n : Nat} {b : Bool} (h : decide (m = n) = b) (w : World) : (do eqGuard .eql 5 x u (.int .u8 ((m : Nat) : Int)) (.int .u8 ((n : Nat) : Int)); binOp .eql 5 (.int .u8 ((m : Nat) : Int)) (.int .u8 ((n : Nat) : Int))).run Tryd.prog w = .ok (.bool b) w := by
  have h1 : (((m : Nat) : Int) == ((n : Nat) : Int)) = b := by rw [← h, Bool.eq_iff_iff]; simp; omega
  simp [eqGuard, binOp, go_sem, h1]
end Go.Proofs.YtgojlikjcpnhjaaDoor

namespace Go.Proofs.YtgojlikjcpnhjaaDoor
open Go.RowKit

set_option maxHeartbeats 4000000 in
theorem cnum_r (W0 : World) : Calls Tryd.prog 57 #[] W0 fun e w' => e = .returned (el (dig dN)) ∧ Below W0.heap.size W0 w' := by
  refine s_in Tryd.func57 Tryd.ntmps57 rfl [] ?_
  intro β a h
  refine sym_seq ?_
  refine St.rg h [(0, .inr (0, pt 0))] [(ce 0, 42)] [] [eN 0] ?_ ?_
  · exact oc (k_al 0 alE rfl rfl) <|
    ok_nil
  clear h; intro β a w h
  refine sym_then ?_
  refine sym_seq ?_
  refine St.rg h [(1, .inl (.agg (ck (kl [163, 120, 89, 19, 202, 77, 235, 117, 171, 216, 65, 65, 77, 10, 112, 0, 152, 232, 121, 119, 121, 64, 199, 140, 115, 254, 111, 43, 238, 108, 3, 82])))), (2, .inl (el (dig dN)))] [] [(0, ce dN)] [nn, nn, eS 0] ?_ ?_
  · exact oc (k_bu #[(0, .int .u8 ((163 : Nat) : Int)), (1, .int .u8 ((120 : Nat) : Int)), (2, .int .u8 ((89 : Nat) : Int)), (3, .int .u8 ((19 : Nat) : Int)), (4, .int .u8 ((202 : Nat) : Int)), (5, .int .u8 ((77 : Nat) : Int)), (6, .int .u8 ((235 : Nat) : Int)), (7, .int .u8 ((117 : Nat) : Int)), (8, .int .u8 ((171 : Nat) : Int)), (9, .int .u8 ((216 : Nat) : Int)), (10, .int .u8 ((65 : Nat) : Int)), (11, .int .u8 ((65 : Nat) : Int)), (12, .int .u8 ((77 : Nat) : Int)), (13, .int .u8 ((10 : Nat) : Int)), (14, .int .u8 ((112 : Nat) : Int)), (15, .int .u8 ((0 : Nat) : Int)), (16, .int .u8 ((152 : Nat) : Int)), (17, .int .u8 ((232 : Nat) : Int)), (18, .int .u8 ((121 : Nat) : Int)), (19, .int .u8 ((119 : Nat) : Int)), (20, .int .u8 ((121 : Nat) : Int)), (21, .int .u8 ((64 : Nat) : Int)), (22, .int .u8 ((199 : Nat) : Int)), (23, .int .u8 ((140 : Nat) : Int)), (24, .int .u8 ((115 : Nat) : Int)), (25, .int .u8 ((254 : Nat) : Int)), (26, .int .u8 ((111 : Nat) : Int)), (27, .int .u8 ((43 : Nat) : Int)), (28, .int .u8 ((238 : Nat) : Int)), (29, .int .u8 ((108 : Nat) : Int)), (30, .int .u8 ((3 : Nat) : Int)), (31, .int .u8 ((82 : Nat) : Int))] (.agg (ck (kl [163, 120, 89, 19, 202, 77, 235, 117, 171, 216, 65, 65, 77, 10, 112, 0, 152, 232, 121, 119, 121, 64, 199, 140, 115, 254, 111, 43, 238, 108, 3, 82]))) (fun w => by kernel_rfl) rfl rfl) <|
    oc (k_ca 27 #[.agg (ck (kl [163, 120, 89, 19, 202, 77, 235, 117, 171, 216, 65, 65, 77, 10, 112, 0, 152, 232, 121, 119, 121, 64, 199, 140, 115, 254, 111, 43, 238, 108, 3, 82]))] (el (dig dN)) (fun w => by have := of_k (b := (kl [163, 120, 89, 19, 202, 77, 235, 117, 171, 216, 65, 65, 77, 10, 112, 0, 152, 232, 121, 119, 121, 64, 199, 140, 115, 254, 111, 43, 238, 108, 3, 82])) (kl_lt (by decide)) w; rwa [show ofb (kl [163, 120, 89, 19, 202, 77, 235, 117, 171, 216, 65, 65, 77, 10, 112, 0, 152, 232, 121, 119, 121, 64, 199, 140, 115, 254, 111, 43, 238, 108, 3, 82]) = dN by decide +kernel] at this) rfl rfl) <|
    oc (k_st 0 0 (el (dig dN)) (c := ce 0) (n := ce dN) (stE (n := dN) (c := ce 0) 42 (ce_size _)) rfl rfl) <|
    ok_nil
  clear h; intro β a w h
  refine sym_then ?_
  refine wp_ret ?_
  exact s_rc (b := 0) (t0 := 42) (c := ce dN) h Tryd.results57 Tryd.underlying42 (fun hb => ⟨rfl, hb⟩)

set_option maxHeartbeats 4000000 in
theorem law_r  (W0 : World) : Calls Tryd.prog 37 #[] W0 fun e w' => e = .returned (.agg (ces [dN])) ∧ Below W0.heap.size W0 w' := by
  refine s_in Tryd.func37 Tryd.ntmps37 rfl [] ?_
  intro β a h
  refine sym_seq ?_
  refine St.rg h [(0, .inr (0, pt 0))] [(ces [0], 74)] [] [eN 0] ?_ ?_
  · exact oc (k_al 0 alL rfl rfl) <|
    ok_nil
  clear h; intro β a w h
  refine sym_then ?_
  refine sym_seq ?_
  refine St.rg h [(1, .inl (el (dig dN))), (2, .inl (.agg (ces [dN])))] [] [(0, ces [dN])] [nn, nn, eS 0] ?_ ?_
  · exact oc (k_ca 57 #[] (el (dig dN)) cnum_r rfl rfl) <|
    oc (k_bu #[(0, el (dig dN))] (.agg (ces [dN])) (bdL (a := dN)) rfl rfl) <|
    oc (k_st 0 0 (.agg (ces [dN])) (c := ces [0]) (n := ces [dN]) (stL (a := dN) (e := ces [0]) 74 (by rw [ces_size]; rfl)) rfl rfl) <|
    ok_nil
  clear h; intro β a w h
  refine sym_then ?_
  refine wp_ret ?_
  exact s_rc (b := 0) (t0 := 74) (c := ces [dN]) h Tryd.results37 Tryd.underlying74 (fun hb => ⟨rfl, hb⟩) (by rw [ces_size]; kernel_rfl)

set_option maxHeartbeats 4000000 in
theorem twice_r {x : Nat} (hx : x < pp) (W0 : World) : Calls Tryd.prog 65 #[el (dig x)] W0 fun e w' => e = .returned (el (dig (ad x x))) ∧ Below W0.heap.size W0 w' := by
  refine s_in Tryd.func65 Tryd.ntmps65 rfl [.inl (el (dig x))] ?_
  intro β a h
  refine sym_seq ?_
  refine St.rg h [(1, .inr (0, pt 0)), (2, .inr (1, pt 0))] [(ce x, 42), (ce 0, 42)] [] [eN 0, eN 1] ?_ ?_
  · exact oc (k_bx 0 (el (dig x)) (bxE (n := x)) rfl rfl) <|
    oc (k_al 1 alE rfl rfl) <|
    ok_nil
  clear h; intro β a w h
  refine sym_then ?_
  refine sym_seq ?_
  refine St.rg h [(3, .inl (el (dig x))), (4, .inl (el (dig x))), (5, .inl (el (dig (ad x x))))] [] [(1, ce (ad x x))] [eR 0, eR 0, nn, eS 1] ?_ ?_
  · exact oc (k_ld 0 0 (el (dig x)) (c := ce x) (ldE (n := x) 42) rfl rfl) <|
    oc (k_ld 0 0 (el (dig x)) (c := ce x) (ldE (n := x) 42) rfl rfl) <|
    oc (k_ca 58 #[el (dig x), el (dig x)] (el (dig (ad x x))) (fun w => plus_m hx hx w) rfl rfl) <|
    oc (k_st 1 0 (el (dig (ad x x))) (c := ce 0) (n := ce (ad x x)) (stE (n := (ad x x)) (c := ce 0) 42 (ce_size _)) rfl rfl) <|
    ok_nil
  clear h; intro β a w h
  refine sym_then ?_
  refine wp_ret ?_
  exact s_rc (b := 1) (t0 := 42) (c := ce (ad x x)) h Tryd.results65 Tryd.underlying42 (fun hb => ⟨rfl, hb⟩)

set_option maxHeartbeats 4000000 in
theorem at_r {x y : Nat} (hy : y < pp) (W0 : World) : Calls Tryd.prog 32 #[el (dig x), el (dig y)] W0 fun e w' => e = .returned (.agg (ces [x, sb y 1])) ∧ Below W0.heap.size W0 w' := by
  refine s_in Tryd.func32 Tryd.ntmps32 rfl [.inl (el (dig x)), .inl (el (dig y))] ?_
  intro β a h
  refine sym_seq ?_
  refine St.rg h [(2, .inr (0, pt 0)), (3, .inr (1, pt 0)), (4, .inr (2, pt 0))] [(ce x, 42), (ce y, 42), (ces [0, 0], 44)] [] [eN 0, eN 1, eN 2] ?_ ?_
  · exact oc (k_bx 0 (el (dig x)) (bxE (n := x)) rfl rfl) <|
    oc (k_bx 1 (el (dig y)) (bxE (n := y)) rfl rfl) <|
    oc (k_al 2 alP rfl rfl) <|
    ok_nil
  clear h; intro β a w h
  refine sym_then ?_
  refine sym_seq ?_
  refine St.rg h [(5, .inl (el (dig x))), (6, .inl (el (dig y))), (7, .inl (el (dig 1))), (8, .inl (el (dig (sb y 1)))), (9, .inl (.agg (ces [x, (sb y 1)])))] [] [(2, ces [x, (sb y 1)])] [eR 0, eR 1, nn, nn, nn, eS 2] ?_ ?_
  · exact oc (k_ld 0 0 (el (dig x)) (c := ce x) (ldE (n := x) 42) rfl rfl) <|
    oc (k_ld 1 0 (el (dig y)) (c := ce y) (ldE (n := y) 42) rfl rfl) <|
    oc (k_ca 33 #[.int .i64 ((1 : Nat) : Int)] (el (dig 1)) (fun w => int_m (m := 1) (by decide) w) rfl rfl) <|
    oc (k_ca 31 #[el (dig y), el (dig 1)] (el (dig (sb y 1))) (fun w => minus_m hy one_ltp w) rfl rfl) <|
    oc (k_bu #[(0, el (dig x)), (1, el (dig (sb y 1)))] (.agg (ces [x, (sb y 1)])) (bdP (a := x) (b := (sb y 1))) rfl rfl) <|
    oc (k_st 2 0 (.agg (ces [x, (sb y 1)])) (c := ces [0, 0]) (n := ces [x, (sb y 1)]) (stP (a := x) (b := (sb y 1)) (c := ces [0, 0]) 44 (by rw [ces_size]; rfl)) rfl rfl) <|
    ok_nil
  clear h; intro β a w h
  refine sym_then ?_
  refine wp_ret ?_
  exact s_rc (b := 2) (t0 := 44) (c := ces [x, (sb y 1)]) h Tryd.results32 Tryd.underlying44 (fun hb => ⟨rfl, hb⟩) (by rw [ces_size]; kernel_rfl)

set_option maxHeartbeats 4000000 in
theorem y_r {x b : Nat} (hb : b < pp) (W0 : World) : Calls Tryd.prog 41 #[.agg (ces [x, b])] W0 fun e w' => e = .returned (el (dig (ad b 1))) ∧ Below W0.heap.size W0 w' := by
  refine s_in Tryd.func41 Tryd.ntmps41 rfl [.inl (.agg (ces [x, b]))] ?_
  intro β a h
  refine sym_seq ?_
  refine St.rg h [(1, .inr (0, pt 0)), (2, .inr (1, pt 0))] [(ces [x, b], 44), (ce 0, 42)] [] [eN 0, eN 1] ?_ ?_
  · exact oc (k_bx 0 (.agg (ces [x, b])) (bxP (a := x) (b := b)) rfl rfl) <|
    oc (k_al 1 alE rfl rfl) <|
    ok_nil
  clear h; intro β a w h
  refine sym_then ?_
  refine sym_seq ?_
  refine St.rg h [(3, .inr (0, pt 4)), (4, .inl (el (dig b))), (5, .inl (el (dig 1))), (6, .inl (el (dig (ad b 1))))] [] [(1, ce (ad b 1))] [nn, eR 0, nn, nn, eS 1] ?_ ?_
  · exact oc (k_fa 0 0 4 rfl rfl) <|
    oc (k_ld 0 4 (el (dig b)) (c := ces [x, b]) (ld_ces (l := [x, b]) (k := 1) (n := b) 44 rfl) rfl rfl) <|
    oc (k_ca 33 #[.int .i64 ((1 : Nat) : Int)] (el (dig 1)) (fun w => int_m (m := 1) (by decide) w) rfl rfl) <|
    oc (k_ca 58 #[el (dig b), el (dig 1)] (el (dig (ad b 1))) (fun w => plus_m hb one_ltp w) rfl rfl) <|
    oc (k_st 1 0 (el (dig (ad b 1))) (c := ce 0) (n := ce (ad b 1)) (stE (n := (ad b 1)) (c := ce 0) 42 (ce_size _)) rfl rfl) <|
    ok_nil
  clear h; intro β a w h
  refine sym_then ?_
  refine wp_ret ?_
  exact s_rc (b := 1) (t0 := 42) (c := ce (ad b 1)) h Tryd.results41 Tryd.underlying42 (fun hb => ⟨rfl, hb⟩)

set_option maxHeartbeats 4000000 in
theorem shared_r {x b : Nat} (hx : x < pp) (hb : b < pp) (W0 : World) : Calls Tryd.prog 36 #[.agg (ces [x, b])] W0 fun e w' => e = .returned (.agg (ces [x, ad b 1, 1, mu x (ad b 1)])) ∧ Below W0.heap.size W0 w' := by
  refine s_in Tryd.func36 Tryd.ntmps36 rfl [.inl (.agg (ces [x, b]))] ?_
  intro β a h
  refine sym_seq ?_
  refine St.rg h [(1, .inr (0, pt 0)), (2, .inr (1, pt 0))] [(ces [x, b], 44), (ces [0, 0, 0, 0], 69)] [] [eN 0, eN 1] ?_ ?_
  · exact oc (k_bx 0 (.agg (ces [x, b])) (bxP (a := x) (b := b)) rfl rfl) <|
    oc (k_al 1 alS rfl rfl) <|
    ok_nil
  clear h; intro β a w h
  refine sym_then ?_
  refine sym_seq ?_
  refine St.rg h [(4, .inl (.agg (ces [x, b]))), (5, .inl (el (dig (ad b 1)))), (3, .inr (2, pt 0))] [(ce 0, 42)] [(2, ce (ad b 1))] [eR 0, nn, eN 2, eS 2] ?_ ?_
  · exact oc (k_ld 0 0 (.agg (ces [x, b])) (c := ces [x, b]) (ldP (a := x) (b := b) 44) rfl rfl) <|
    oc (k_ca 41 #[.agg (ces [x, b])] (el (dig (ad b 1))) (fun w => y_r hb w) rfl rfl) <|
    oc (k_al 2 alE rfl rfl) <|
    oc (k_st 2 0 (el (dig (ad b 1))) (c := ce 0) (n := ce (ad b 1)) (stE (n := (ad b 1)) (c := ce 0) 42 (ce_size _)) rfl rfl) <|
    ok_nil
  clear h; intro β a w h
  refine sym_then ?_
  refine sym_seq ?_
  refine St.rg h [(6, .inr (0, pt 0)), (7, .inl (el (dig x))), (8, .inl (el (dig (ad b 1)))), (9, .inl (el (dig 1))), (10, .inr (0, pt 0)), (11, .inl (el (dig x))), (12, .inl (el (dig (ad b 1)))), (13, .inl (el (dig (mu x (ad b 1))))), (14, .inl (.agg (ces [x, (ad b 1), 1, (mu x (ad b 1))])))] [] [(1, ces [x, (ad b 1), 1, (mu x (ad b 1))])] [nn, eR 0, eR 2, nn, nn, eR 0, eR 2, nn, nn, eS 1] ?_ ?_
  · exact oc (k_fa 0 0 0 rfl rfl) <|
    oc (k_ld 0 0 (el (dig x)) (c := ces [x, b]) (ld_ces (l := [x, b]) (k := 0) (n := x) 44 rfl) rfl rfl) <|
    oc (k_ld 2 0 (el (dig (ad b 1))) (c := ce (ad b 1)) (ldE (n := (ad b 1)) 42) rfl rfl) <|
    oc (k_ca 33 #[.int .i64 ((1 : Nat) : Int)] (el (dig 1)) (fun w => int_m (m := 1) (by decide) w) rfl rfl) <|
    oc (k_fa 0 0 0 rfl rfl) <|
    oc (k_ld 0 0 (el (dig x)) (c := ces [x, b]) (ld_ces (l := [x, b]) (k := 0) (n := x) 44 rfl) rfl rfl) <|
    oc (k_ld 2 0 (el (dig (ad b 1))) (c := ce (ad b 1)) (ldE (n := (ad b 1)) 42) rfl rfl) <|
    oc (k_ca 56 #[el (dig x), el (dig (ad b 1))] (el (dig (mu x (ad b 1)))) (fun w => times_m hx (ad_lt _ _) w) rfl rfl) <|
    oc (k_bu #[(0, el (dig x)), (1, el (dig (ad b 1))), (2, el (dig 1)), (3, el (dig (mu x (ad b 1))))] (.agg (ces [x, (ad b 1), 1, (mu x (ad b 1))])) (bdS (a := x) (b := (ad b 1)) (c := 1) (d := (mu x (ad b 1)))) rfl rfl) <|
    oc (k_st 1 0 (.agg (ces [x, (ad b 1), 1, (mu x (ad b 1))])) (c := ces [0, 0, 0, 0]) (n := ces [x, (ad b 1), 1, (mu x (ad b 1))]) (stS (a := x) (b := (ad b 1)) (c := 1) (d := (mu x (ad b 1))) (e := ces [0, 0, 0, 0]) 69 (by rw [ces_size]; rfl)) rfl rfl) <|
    ok_nil
  clear h; intro β a w h
  refine sym_then ?_
  refine wp_ret ?_
  exact s_rc (b := 1) (t0 := 69) (c := ces [x, (ad b 1), 1, (mu x (ad b 1))]) h Tryd.results36 Tryd.underlying69 (fun hb => ⟨rfl, hb⟩) (by rw [ces_size]; kernel_rfl)

set_option maxHeartbeats 4000000 in
theorem point_r {X Y Z T : Nat} (hX : X < pp) (hY : Y < pp) (hZ : Z < pp) (W0 : World) : Calls Tryd.prog 39 #[.agg (ces [X, Y, Z, T])] W0 fun e w' => e = .returned (.agg (ces [mu X (mu 1 (inv Z)), sb (mu Y (mu 1 (inv Z))) 1])) ∧ Below W0.heap.size W0 w' := by
  refine s_in Tryd.func39 Tryd.ntmps39 rfl [.inl (.agg (ces [X, Y, Z, T]))] ?_
  intro β a h
  refine sym_seq ?_
  refine St.rg h [(1, .inr (0, pt 0)), (2, .inr (1, pt 0))] [(ces [X, Y, Z, T], 69), (ces [0, 0], 44)] [] [eN 0, eN 1] ?_ ?_
  · exact oc (k_bx 0 (.agg (ces [X, Y, Z, T])) (bxS (a := X) (b := Y) (c := Z) (d := T)) rfl rfl) <|
    oc (k_al 1 alP rfl rfl) <|
    ok_nil
  clear h; intro β a w h
  refine sym_then ?_
  refine sym_seq ?_
  refine St.rg h [(4, .inl (el (dig 1))), (5, .inr (0, pt 8)), (6, .inl (el (dig Z))), (7, .inl (el (dig (mu 1 (inv Z))))), (3, .inr (2, pt 0))] [(ce 0, 42)] [(2, ce (mu 1 (inv Z)))] [nn, nn, eR 0, nn, eN 2, eS 2] ?_ ?_
  · exact oc (k_ca 33 #[.int .i64 ((1 : Nat) : Int)] (el (dig 1)) (fun w => int_m (m := 1) (by decide) w) rfl rfl) <|
    oc (k_fa 0 0 8 rfl rfl) <|
    oc (k_ld 0 8 (el (dig Z)) (c := ces [X, Y, Z, T]) (ld_ces (l := [X, Y, Z, T]) (k := 2) (n := Z) 69 rfl) rfl rfl) <|
    oc (k_ca 34 #[el (dig 1), el (dig Z)] (el (dig (mu 1 (inv Z)))) (fun w => over_m one_ltp hZ w) rfl rfl) <|
    oc (k_al 2 alE rfl rfl) <|
    oc (k_st 2 0 (el (dig (mu 1 (inv Z)))) (c := ce 0) (n := ce (mu 1 (inv Z))) (stE (n := (mu 1 (inv Z))) (c := ce 0) 42 (ce_size _)) rfl rfl) <|
    ok_nil
  clear h; intro β a w h
  refine sym_then ?_
  refine sym_seq ?_
  refine St.rg h [(8, .inr (0, pt 0)), (9, .inl (el (dig X))), (10, .inl (el (dig (mu 1 (inv Z))))), (11, .inl (el (dig (mu X (mu 1 (inv Z)))))), (12, .inr (0, pt 4)), (13, .inl (el (dig Y))), (14, .inl (el (dig (mu 1 (inv Z))))), (15, .inl (el (dig (mu Y (mu 1 (inv Z)))))), (16, .inl (.agg (ces [(mu X (mu 1 (inv Z))), (sb (mu Y (mu 1 (inv Z))) 1)])))] [] [(1, ces [(mu X (mu 1 (inv Z))), (sb (mu Y (mu 1 (inv Z))) 1)])] [nn, eR 0, eR 2, nn, nn, eR 0, eR 2, nn, nn, eS 1] ?_ ?_
  · exact oc (k_fa 0 0 0 rfl rfl) <|
    oc (k_ld 0 0 (el (dig X)) (c := ces [X, Y, Z, T]) (ld_ces (l := [X, Y, Z, T]) (k := 0) (n := X) 69 rfl) rfl rfl) <|
    oc (k_ld 2 0 (el (dig (mu 1 (inv Z)))) (c := ce (mu 1 (inv Z))) (ldE (n := (mu 1 (inv Z))) 42) rfl rfl) <|
    oc (k_ca 56 #[el (dig X), el (dig (mu 1 (inv Z)))] (el (dig (mu X (mu 1 (inv Z))))) (fun w => times_m hX (mu_lt _ _) w) rfl rfl) <|
    oc (k_fa 0 0 4 rfl rfl) <|
    oc (k_ld 0 4 (el (dig Y)) (c := ces [X, Y, Z, T]) (ld_ces (l := [X, Y, Z, T]) (k := 1) (n := Y) 69 rfl) rfl rfl) <|
    oc (k_ld 2 0 (el (dig (mu 1 (inv Z)))) (c := ce (mu 1 (inv Z))) (ldE (n := (mu 1 (inv Z))) 42) rfl rfl) <|
    oc (k_ca 56 #[el (dig Y), el (dig (mu 1 (inv Z)))] (el (dig (mu Y (mu 1 (inv Z))))) (fun w => times_m hY (mu_lt _ _) w) rfl rfl) <|
    oc (k_ca 32 #[el (dig (mu X (mu 1 (inv Z)))), el (dig (mu Y (mu 1 (inv Z))))] (.agg (ces [(mu X (mu 1 (inv Z))), (sb (mu Y (mu 1 (inv Z))) 1)])) (fun w => at_r (mu_lt _ _) w) rfl rfl) <|
    oc (k_st 1 0 (.agg (ces [(mu X (mu 1 (inv Z))), (sb (mu Y (mu 1 (inv Z))) 1)])) (c := ces [0, 0]) (n := ces [(mu X (mu 1 (inv Z))), (sb (mu Y (mu 1 (inv Z))) 1)]) (stP (a := (mu X (mu 1 (inv Z)))) (b := (sb (mu Y (mu 1 (inv Z))) 1)) (c := ces [0, 0]) 44 (by rw [ces_size]; rfl)) rfl rfl) <|
    ok_nil
  clear h; intro β a w h
  refine sym_then ?_
  refine wp_ret ?_
  exact s_rc (b := 1) (t0 := 44) (c := ces [(mu X (mu 1 (inv Z))), (sb (mu Y (mu 1 (inv Z))) 1)]) h Tryd.results39 Tryd.underlying44 (fun hb => ⟨rfl, hb⟩) (by rw [ces_size]; kernel_rfl)

end Go.Proofs.YtgojlikjcpnhjaaDoor

namespace Go.Proofs.YtgojlikjcpnhjaaDoor
open Go.RowKit
def sLe (x1 y1 x2 y2 : Nat) : Nat := mu (sb y1 x1) (sb y2 x2)
def sMo (x1 y1 x2 y2 : Nat) : Nat := mu (ad y1 x1) (ad y2 x2)
def sOn (z1 z2 : Nat) : Nat := ad (mu z1 z2) (mu z1 z2)
def sPr (d t1 t2 : Nat) : Nat := ad (mu (mu t1 t2) d) (mu (mu t1 t2) d)

set_option maxHeartbeats 4000000 in
theorem sum_r {d x1 y1 z1 t1 x2 y2 z2 t2 : Nat} (hd : d < pp) (hx1 : x1 < pp) (hy1 : y1 < pp) (hz1 : z1 < pp) (ht1 : t1 < pp) (hx2 : x2 < pp) (hy2 : y2 < pp) (hz2 : z2 < pp) (ht2 : t2 < pp) (W0 : World) : Calls Tryd.prog 38 #[.agg (ces [d]), .agg (ces [x1, y1, z1, t1]), .agg (ces [x2, y2, z2, t2])] W0 fun e w' => e = .returned (.agg (ces [mu (sb (mu (ad y1 x1) (ad y2 x2)) (mu (sb y1 x1) (sb y2 x2))) (sb (ad (mu z1 z2) (mu z1 z2)) (ad (mu (mu t1 t2) d) (mu (mu t1 t2) d))), mu (ad (mu (ad y1 x1) (ad y2 x2)) (mu (sb y1 x1) (sb y2 x2))) (ad (ad (mu z1 z2) (mu z1 z2)) (ad (mu (mu t1 t2) d) (mu (mu t1 t2) d))), mu (ad (ad (mu z1 z2) (mu z1 z2)) (ad (mu (mu t1 t2) d) (mu (mu t1 t2) d))) (sb (ad (mu z1 z2) (mu z1 z2)) (ad (mu (mu t1 t2) d) (mu (mu t1 t2) d))), mu (sb (mu (ad y1 x1) (ad y2 x2)) (mu (sb y1 x1) (sb y2 x2))) (ad (mu (ad y1 x1) (ad y2 x2)) (mu (sb y1 x1) (sb y2 x2)))])) ∧ Below W0.heap.size W0 w' := by
  refine s_in Tryd.func38 Tryd.ntmps38 rfl [.inl (.agg (ces [d])), .inl (.agg (ces [x1, y1, z1, t1])), .inl (.agg (ces [x2, y2, z2, t2]))] ?_
  intro β a h
  refine sym_seq ?_
  refine St.rg h [(3, .inr (0, pt 0)), (4, .inr (1, pt 0)), (5, .inr (2, pt 0)), (6, .inr (3, pt 0))] [(ces [d], 74), (ces [x1, y1, z1, t1], 69), (ces [x2, y2, z2, t2], 69), (ces [0, 0, 0, 0], 69)] [] [eN 0, eN 1, eN 2, eN 3] ?_ ?_
  · exact oc (k_bx 0 (.agg (ces [d])) (bxL (a := d)) rfl rfl) <|
    oc (k_bx 1 (.agg (ces [x1, y1, z1, t1])) (bxS (a := x1) (b := y1) (c := z1) (d := t1)) rfl rfl) <|
    oc (k_bx 2 (.agg (ces [x2, y2, z2, t2])) (bxS (a := x2) (b := y2) (c := z2) (d := t2)) rfl rfl) <|
    oc (k_al 3 alS rfl rfl) <|
    ok_nil
  clear h; intro β a w h
  refine sym_then ?_
  refine sym_seq ?_
  refine St.rg h [(15, .inr (1, pt 4)), (16, .inl (el (dig y1))), (17, .inr (1, pt 0)), (18, .inl (el (dig x1))), (19, .inl (el (dig (sb y1 x1)))), (20, .inr (2, pt 4)), (21, .inl (el (dig y2))), (22, .inr (2, pt 0)), (23, .inl (el (dig x2))), (24, .inl (el (dig (sb y2 x2)))), (25, .inl (el (dig (mu (sb y1 x1) (sb y2 x2))))), (7, .inr (4, pt 0))] [(ce 0, 42)] [(4, ce (mu (sb y1 x1) (sb y2 x2)))] [nn, eR 1, nn, eR 1, nn, nn, eR 2, nn, eR 2, nn, nn, eN 4, eS 4] ?_ ?_
  · exact oc (k_fa 1 0 4 rfl rfl) <|
    oc (k_ld 1 4 (el (dig y1)) (c := ces [x1, y1, z1, t1]) (ld_ces (l := [x1, y1, z1, t1]) (k := 1) (n := y1) 69 rfl) rfl rfl) <|
    oc (k_fa 1 0 0 rfl rfl) <|
    oc (k_ld 1 0 (el (dig x1)) (c := ces [x1, y1, z1, t1]) (ld_ces (l := [x1, y1, z1, t1]) (k := 0) (n := x1) 69 rfl) rfl rfl) <|
    oc (k_ca 31 #[el (dig y1), el (dig x1)] (el (dig (sb y1 x1))) (fun w => minus_m hy1 hx1 w) rfl rfl) <|
    oc (k_fa 2 0 4 rfl rfl) <|
    oc (k_ld 2 4 (el (dig y2)) (c := ces [x2, y2, z2, t2]) (ld_ces (l := [x2, y2, z2, t2]) (k := 1) (n := y2) 69 rfl) rfl rfl) <|
    oc (k_fa 2 0 0 rfl rfl) <|
    oc (k_ld 2 0 (el (dig x2)) (c := ces [x2, y2, z2, t2]) (ld_ces (l := [x2, y2, z2, t2]) (k := 0) (n := x2) 69 rfl) rfl rfl) <|
    oc (k_ca 31 #[el (dig y2), el (dig x2)] (el (dig (sb y2 x2))) (fun w => minus_m hy2 hx2 w) rfl rfl) <|
    oc (k_ca 56 #[el (dig (sb y1 x1)), el (dig (sb y2 x2))] (el (dig (mu (sb y1 x1) (sb y2 x2)))) (fun w => times_m (sb_lt _ _) (sb_lt _ _) w) rfl rfl) <|
    oc (k_al 4 alE rfl rfl) <|
    oc (k_st 4 0 (el (dig (mu (sb y1 x1) (sb y2 x2)))) (c := ce 0) (n := ce (mu (sb y1 x1) (sb y2 x2))) (stE (n := (mu (sb y1 x1) (sb y2 x2))) (c := ce 0) 42 (ce_size _)) rfl rfl) <|
    ok_nil
  clear h; intro β a w h
  refine sym_then ?_
  refine sym_seq ?_
  refine St.rg h [(26, .inr (1, pt 4)), (27, .inl (el (dig y1))), (28, .inr (1, pt 0)), (29, .inl (el (dig x1))), (30, .inl (el (dig (ad y1 x1)))), (31, .inr (2, pt 4)), (32, .inl (el (dig y2))), (33, .inr (2, pt 0)), (34, .inl (el (dig x2))), (35, .inl (el (dig (ad y2 x2)))), (36, .inl (el (dig (mu (ad y1 x1) (ad y2 x2))))), (8, .inr (5, pt 0))] [(ce 0, 42)] [(5, ce (mu (ad y1 x1) (ad y2 x2)))] [nn, eR 1, nn, eR 1, nn, nn, eR 2, nn, eR 2, nn, nn, eN 5, eS 5] ?_ ?_
  · exact oc (k_fa 1 0 4 rfl rfl) <|
    oc (k_ld 1 4 (el (dig y1)) (c := ces [x1, y1, z1, t1]) (ld_ces (l := [x1, y1, z1, t1]) (k := 1) (n := y1) 69 rfl) rfl rfl) <|
    oc (k_fa 1 0 0 rfl rfl) <|
    oc (k_ld 1 0 (el (dig x1)) (c := ces [x1, y1, z1, t1]) (ld_ces (l := [x1, y1, z1, t1]) (k := 0) (n := x1) 69 rfl) rfl rfl) <|
    oc (k_ca 58 #[el (dig y1), el (dig x1)] (el (dig (ad y1 x1))) (fun w => plus_m hy1 hx1 w) rfl rfl) <|
    oc (k_fa 2 0 4 rfl rfl) <|
    oc (k_ld 2 4 (el (dig y2)) (c := ces [x2, y2, z2, t2]) (ld_ces (l := [x2, y2, z2, t2]) (k := 1) (n := y2) 69 rfl) rfl rfl) <|
    oc (k_fa 2 0 0 rfl rfl) <|
    oc (k_ld 2 0 (el (dig x2)) (c := ces [x2, y2, z2, t2]) (ld_ces (l := [x2, y2, z2, t2]) (k := 0) (n := x2) 69 rfl) rfl rfl) <|
    oc (k_ca 58 #[el (dig y2), el (dig x2)] (el (dig (ad y2 x2))) (fun w => plus_m hy2 hx2 w) rfl rfl) <|
    oc (k_ca 56 #[el (dig (ad y1 x1)), el (dig (ad y2 x2))] (el (dig (mu (ad y1 x1) (ad y2 x2)))) (fun w => times_m (ad_lt _ _) (ad_lt _ _) w) rfl rfl) <|
    oc (k_al 5 alE rfl rfl) <|
    oc (k_st 5 0 (el (dig (mu (ad y1 x1) (ad y2 x2)))) (c := ce 0) (n := ce (mu (ad y1 x1) (ad y2 x2))) (stE (n := (mu (ad y1 x1) (ad y2 x2))) (c := ce 0) 42 (ce_size _)) rfl rfl) <|
    ok_nil
  clear h; intro β a w h
  refine sym_then ?_
  refine sym_seq ?_
  refine St.rg h [(37, .inr (1, pt 8)), (38, .inl (el (dig z1))), (39, .inr (2, pt 8)), (40, .inl (el (dig z2))), (41, .inl (el (dig (mu z1 z2)))), (42, .inl (el (dig (ad (mu z1 z2) (mu z1 z2))))), (9, .inr (6, pt 0))] [(ce 0, 42)] [(6, ce (ad (mu z1 z2) (mu z1 z2)))] [nn, eR 1, nn, eR 2, nn, nn, eN 6, eS 6] ?_ ?_
  · exact oc (k_fa 1 0 8 rfl rfl) <|
    oc (k_ld 1 8 (el (dig z1)) (c := ces [x1, y1, z1, t1]) (ld_ces (l := [x1, y1, z1, t1]) (k := 2) (n := z1) 69 rfl) rfl rfl) <|
    oc (k_fa 2 0 8 rfl rfl) <|
    oc (k_ld 2 8 (el (dig z2)) (c := ces [x2, y2, z2, t2]) (ld_ces (l := [x2, y2, z2, t2]) (k := 2) (n := z2) 69 rfl) rfl rfl) <|
    oc (k_ca 56 #[el (dig z1), el (dig z2)] (el (dig (mu z1 z2))) (fun w => times_m hz1 hz2 w) rfl rfl) <|
    oc (k_ca 65 #[el (dig (mu z1 z2))] (el (dig (ad (mu z1 z2) (mu z1 z2)))) (fun w => twice_r (mu_lt _ _) w) rfl rfl) <|
    oc (k_al 6 alE rfl rfl) <|
    oc (k_st 6 0 (el (dig (ad (mu z1 z2) (mu z1 z2)))) (c := ce 0) (n := ce (ad (mu z1 z2) (mu z1 z2))) (stE (n := (ad (mu z1 z2) (mu z1 z2))) (c := ce 0) 42 (ce_size _)) rfl rfl) <|
    ok_nil
  clear h; intro β a w h
  refine sym_then ?_
  refine sym_seq ?_
  refine St.rg h [(43, .inr (1, pt 12)), (44, .inl (el (dig t1))), (45, .inr (2, pt 12)), (46, .inl (el (dig t2))), (47, .inl (el (dig (mu t1 t2)))), (48, .inr (0, pt 0)), (49, .inl (el (dig d))), (50, .inl (el (dig (mu (mu t1 t2) d)))), (51, .inl (el (dig (ad (mu (mu t1 t2) d) (mu (mu t1 t2) d))))), (10, .inr (7, pt 0))] [(ce 0, 42)] [(7, ce (ad (mu (mu t1 t2) d) (mu (mu t1 t2) d)))] [nn, eR 1, nn, eR 2, nn, nn, eR 0, nn, nn, eN 7, eS 7] ?_ ?_
  · exact oc (k_fa 1 0 12 rfl rfl) <|
    oc (k_ld 1 12 (el (dig t1)) (c := ces [x1, y1, z1, t1]) (ld_ces (l := [x1, y1, z1, t1]) (k := 3) (n := t1) 69 rfl) rfl rfl) <|
    oc (k_fa 2 0 12 rfl rfl) <|
    oc (k_ld 2 12 (el (dig t2)) (c := ces [x2, y2, z2, t2]) (ld_ces (l := [x2, y2, z2, t2]) (k := 3) (n := t2) 69 rfl) rfl rfl) <|
    oc (k_ca 56 #[el (dig t1), el (dig t2)] (el (dig (mu t1 t2))) (fun w => times_m ht1 ht2 w) rfl rfl) <|
    oc (k_fa 0 0 0 rfl rfl) <|
    oc (k_ld 0 0 (el (dig d)) (c := ces [d]) (ld_ces (l := [d]) (k := 0) (n := d) 74 rfl) rfl rfl) <|
    oc (k_ca 56 #[el (dig (mu t1 t2)), el (dig d)] (el (dig (mu (mu t1 t2) d))) (fun w => times_m (mu_lt _ _) hd w) rfl rfl) <|
    oc (k_ca 65 #[el (dig (mu (mu t1 t2) d))] (el (dig (ad (mu (mu t1 t2) d) (mu (mu t1 t2) d)))) (fun w => twice_r (mu_lt _ _) w) rfl rfl) <|
    oc (k_al 7 alE rfl rfl) <|
    oc (k_st 7 0 (el (dig (ad (mu (mu t1 t2) d) (mu (mu t1 t2) d)))) (c := ce 0) (n := ce (ad (mu (mu t1 t2) d) (mu (mu t1 t2) d))) (stE (n := (ad (mu (mu t1 t2) d) (mu (mu t1 t2) d))) (c := ce 0) 42 (ce_size _)) rfl rfl) <|
    ok_nil
  clear h; intro β a w h
  refine sym_then ?_
  refine sym_seq ?_
  refine St.rg h [(52, .inl (el (dig (mu (ad y1 x1) (ad y2 x2))))), (53, .inl (el (dig (mu (sb y1 x1) (sb y2 x2))))), (54, .inl (el (dig (sb (mu (ad y1 x1) (ad y2 x2)) (mu (sb y1 x1) (sb y2 x2)))))), (55, .inl (el (dig (mu (ad y1 x1) (ad y2 x2))))), (56, .inl (el (dig (mu (sb y1 x1) (sb y2 x2))))), (57, .inl (el (dig (ad (mu (ad y1 x1) (ad y2 x2)) (mu (sb y1 x1) (sb y2 x2)))))), (11, .inr (8, pt 0)), (12, .inr (9, pt 0))] [(ce 0, 42), (ce 0, 42)] [(8, ce (sb (mu (ad y1 x1) (ad y2 x2)) (mu (sb y1 x1) (sb y2 x2)))), (9, ce (ad (mu (ad y1 x1) (ad y2 x2)) (mu (sb y1 x1) (sb y2 x2))))] [eR 5, eR 4, nn, eR 5, eR 4, nn, eN 8, eN 9, eS 8, eS 9] ?_ ?_
  · exact oc (k_ld 5 0 (el (dig (mu (ad y1 x1) (ad y2 x2)))) (c := ce (mu (ad y1 x1) (ad y2 x2))) (ldE (n := (mu (ad y1 x1) (ad y2 x2))) 42) rfl rfl) <|
    oc (k_ld 4 0 (el (dig (mu (sb y1 x1) (sb y2 x2)))) (c := ce (mu (sb y1 x1) (sb y2 x2))) (ldE (n := (mu (sb y1 x1) (sb y2 x2))) 42) rfl rfl) <|
    oc (k_ca 31 #[el (dig (mu (ad y1 x1) (ad y2 x2))), el (dig (mu (sb y1 x1) (sb y2 x2)))] (el (dig (sb (mu (ad y1 x1) (ad y2 x2)) (mu (sb y1 x1) (sb y2 x2))))) (fun w => minus_m (mu_lt _ _) (mu_lt _ _) w) rfl rfl) <|
    oc (k_ld 5 0 (el (dig (mu (ad y1 x1) (ad y2 x2)))) (c := ce (mu (ad y1 x1) (ad y2 x2))) (ldE (n := (mu (ad y1 x1) (ad y2 x2))) 42) rfl rfl) <|
    oc (k_ld 4 0 (el (dig (mu (sb y1 x1) (sb y2 x2)))) (c := ce (mu (sb y1 x1) (sb y2 x2))) (ldE (n := (mu (sb y1 x1) (sb y2 x2))) 42) rfl rfl) <|
    oc (k_ca 58 #[el (dig (mu (ad y1 x1) (ad y2 x2))), el (dig (mu (sb y1 x1) (sb y2 x2)))] (el (dig (ad (mu (ad y1 x1) (ad y2 x2)) (mu (sb y1 x1) (sb y2 x2))))) (fun w => plus_m (mu_lt _ _) (mu_lt _ _) w) rfl rfl) <|
    oc (k_al 8 alE rfl rfl) <|
    oc (k_al 9 alE rfl rfl) <|
    oc (k_st 8 0 (el (dig (sb (mu (ad y1 x1) (ad y2 x2)) (mu (sb y1 x1) (sb y2 x2))))) (c := ce 0) (n := ce (sb (mu (ad y1 x1) (ad y2 x2)) (mu (sb y1 x1) (sb y2 x2)))) (stE (n := (sb (mu (ad y1 x1) (ad y2 x2)) (mu (sb y1 x1) (sb y2 x2)))) (c := ce 0) 42 (ce_size _)) rfl rfl) <|
    oc (k_st 9 0 (el (dig (ad (mu (ad y1 x1) (ad y2 x2)) (mu (sb y1 x1) (sb y2 x2))))) (c := ce 0) (n := ce (ad (mu (ad y1 x1) (ad y2 x2)) (mu (sb y1 x1) (sb y2 x2)))) (stE (n := (ad (mu (ad y1 x1) (ad y2 x2)) (mu (sb y1 x1) (sb y2 x2)))) (c := ce 0) 42 (ce_size _)) rfl rfl) <|
    ok_nil
  clear h; intro β a w h
  refine sym_then ?_
  refine sym_seq ?_
  refine St.rg h [(58, .inl (el (dig (ad (mu z1 z2) (mu z1 z2))))), (59, .inl (el (dig (ad (mu (mu t1 t2) d) (mu (mu t1 t2) d))))), (60, .inl (el (dig (ad (ad (mu z1 z2) (mu z1 z2)) (ad (mu (mu t1 t2) d) (mu (mu t1 t2) d)))))), (61, .inl (el (dig (ad (mu z1 z2) (mu z1 z2))))), (62, .inl (el (dig (ad (mu (mu t1 t2) d) (mu (mu t1 t2) d))))), (63, .inl (el (dig (sb (ad (mu z1 z2) (mu z1 z2)) (ad (mu (mu t1 t2) d) (mu (mu t1 t2) d)))))), (13, .inr (10, pt 0)), (14, .inr (11, pt 0))] [(ce 0, 42), (ce 0, 42)] [(10, ce (ad (ad (mu z1 z2) (mu z1 z2)) (ad (mu (mu t1 t2) d) (mu (mu t1 t2) d)))), (11, ce (sb (ad (mu z1 z2) (mu z1 z2)) (ad (mu (mu t1 t2) d) (mu (mu t1 t2) d))))] [eR 6, eR 7, nn, eR 6, eR 7, nn, eN 10, eN 11, eS 10, eS 11] ?_ ?_
  · exact oc (k_ld 6 0 (el (dig (ad (mu z1 z2) (mu z1 z2)))) (c := ce (ad (mu z1 z2) (mu z1 z2))) (ldE (n := (ad (mu z1 z2) (mu z1 z2))) 42) rfl rfl) <|
    oc (k_ld 7 0 (el (dig (ad (mu (mu t1 t2) d) (mu (mu t1 t2) d)))) (c := ce (ad (mu (mu t1 t2) d) (mu (mu t1 t2) d))) (ldE (n := (ad (mu (mu t1 t2) d) (mu (mu t1 t2) d))) 42) rfl rfl) <|
    oc (k_ca 58 #[el (dig (ad (mu z1 z2) (mu z1 z2))), el (dig (ad (mu (mu t1 t2) d) (mu (mu t1 t2) d)))] (el (dig (ad (ad (mu z1 z2) (mu z1 z2)) (ad (mu (mu t1 t2) d) (mu (mu t1 t2) d))))) (fun w => plus_m (ad_lt _ _) (ad_lt _ _) w) rfl rfl) <|
    oc (k_ld 6 0 (el (dig (ad (mu z1 z2) (mu z1 z2)))) (c := ce (ad (mu z1 z2) (mu z1 z2))) (ldE (n := (ad (mu z1 z2) (mu z1 z2))) 42) rfl rfl) <|
    oc (k_ld 7 0 (el (dig (ad (mu (mu t1 t2) d) (mu (mu t1 t2) d)))) (c := ce (ad (mu (mu t1 t2) d) (mu (mu t1 t2) d))) (ldE (n := (ad (mu (mu t1 t2) d) (mu (mu t1 t2) d))) 42) rfl rfl) <|
    oc (k_ca 31 #[el (dig (ad (mu z1 z2) (mu z1 z2))), el (dig (ad (mu (mu t1 t2) d) (mu (mu t1 t2) d)))] (el (dig (sb (ad (mu z1 z2) (mu z1 z2)) (ad (mu (mu t1 t2) d) (mu (mu t1 t2) d))))) (fun w => minus_m (ad_lt _ _) (ad_lt _ _) w) rfl rfl) <|
    oc (k_al 10 alE rfl rfl) <|
    oc (k_al 11 alE rfl rfl) <|
    oc (k_st 10 0 (el (dig (ad (ad (mu z1 z2) (mu z1 z2)) (ad (mu (mu t1 t2) d) (mu (mu t1 t2) d))))) (c := ce 0) (n := ce (ad (ad (mu z1 z2) (mu z1 z2)) (ad (mu (mu t1 t2) d) (mu (mu t1 t2) d)))) (stE (n := (ad (ad (mu z1 z2) (mu z1 z2)) (ad (mu (mu t1 t2) d) (mu (mu t1 t2) d)))) (c := ce 0) 42 (ce_size _)) rfl rfl) <|
    oc (k_st 11 0 (el (dig (sb (ad (mu z1 z2) (mu z1 z2)) (ad (mu (mu t1 t2) d) (mu (mu t1 t2) d))))) (c := ce 0) (n := ce (sb (ad (mu z1 z2) (mu z1 z2)) (ad (mu (mu t1 t2) d) (mu (mu t1 t2) d)))) (stE (n := (sb (ad (mu z1 z2) (mu z1 z2)) (ad (mu (mu t1 t2) d) (mu (mu t1 t2) d)))) (c := ce 0) 42 (ce_size _)) rfl rfl) <|
    ok_nil
  clear h; intro β a w h
  refine sym_then ?_
  refine sym_seq ?_
  refine St.rg h [(64, .inl (el (dig (sb (mu (ad y1 x1) (ad y2 x2)) (mu (sb y1 x1) (sb y2 x2)))))), (65, .inl (el (dig (sb (ad (mu z1 z2) (mu z1 z2)) (ad (mu (mu t1 t2) d) (mu (mu t1 t2) d)))))), (66, .inl (el (dig (mu (sb (mu (ad y1 x1) (ad y2 x2)) (mu (sb y1 x1) (sb y2 x2))) (sb (ad (mu z1 z2) (mu z1 z2)) (ad (mu (mu t1 t2) d) (mu (mu t1 t2) d))))))), (67, .inl (el (dig (ad (mu (ad y1 x1) (ad y2 x2)) (mu (sb y1 x1) (sb y2 x2)))))), (68, .inl (el (dig (ad (ad (mu z1 z2) (mu z1 z2)) (ad (mu (mu t1 t2) d) (mu (mu t1 t2) d)))))), (69, .inl (el (dig (mu (ad (mu (ad y1 x1) (ad y2 x2)) (mu (sb y1 x1) (sb y2 x2))) (ad (ad (mu z1 z2) (mu z1 z2)) (ad (mu (mu t1 t2) d) (mu (mu t1 t2) d))))))), (70, .inl (el (dig (ad (ad (mu z1 z2) (mu z1 z2)) (ad (mu (mu t1 t2) d) (mu (mu t1 t2) d)))))), (71, .inl (el (dig (sb (ad (mu z1 z2) (mu z1 z2)) (ad (mu (mu t1 t2) d) (mu (mu t1 t2) d)))))), (72, .inl (el (dig (mu (ad (ad (mu z1 z2) (mu z1 z2)) (ad (mu (mu t1 t2) d) (mu (mu t1 t2) d))) (sb (ad (mu z1 z2) (mu z1 z2)) (ad (mu (mu t1 t2) d) (mu (mu t1 t2) d))))))), (73, .inl (el (dig (sb (mu (ad y1 x1) (ad y2 x2)) (mu (sb y1 x1) (sb y2 x2)))))), (74, .inl (el (dig (ad (mu (ad y1 x1) (ad y2 x2)) (mu (sb y1 x1) (sb y2 x2)))))), (75, .inl (el (dig (mu (sb (mu (ad y1 x1) (ad y2 x2)) (mu (sb y1 x1) (sb y2 x2))) (ad (mu (ad y1 x1) (ad y2 x2)) (mu (sb y1 x1) (sb y2 x2))))))), (76, .inl (.agg (ces [(mu (sb (mu (ad y1 x1) (ad y2 x2)) (mu (sb y1 x1) (sb y2 x2))) (sb (ad (mu z1 z2) (mu z1 z2)) (ad (mu (mu t1 t2) d) (mu (mu t1 t2) d)))), (mu (ad (mu (ad y1 x1) (ad y2 x2)) (mu (sb y1 x1) (sb y2 x2))) (ad (ad (mu z1 z2) (mu z1 z2)) (ad (mu (mu t1 t2) d) (mu (mu t1 t2) d)))), (mu (ad (ad (mu z1 z2) (mu z1 z2)) (ad (mu (mu t1 t2) d) (mu (mu t1 t2) d))) (sb (ad (mu z1 z2) (mu z1 z2)) (ad (mu (mu t1 t2) d) (mu (mu t1 t2) d)))), (mu (sb (mu (ad y1 x1) (ad y2 x2)) (mu (sb y1 x1) (sb y2 x2))) (ad (mu (ad y1 x1) (ad y2 x2)) (mu (sb y1 x1) (sb y2 x2))))])))] [] [(3, ces [(mu (sb (mu (ad y1 x1) (ad y2 x2)) (mu (sb y1 x1) (sb y2 x2))) (sb (ad (mu z1 z2) (mu z1 z2)) (ad (mu (mu t1 t2) d) (mu (mu t1 t2) d)))), (mu (ad (mu (ad y1 x1) (ad y2 x2)) (mu (sb y1 x1) (sb y2 x2))) (ad (ad (mu z1 z2) (mu z1 z2)) (ad (mu (mu t1 t2) d) (mu (mu t1 t2) d)))), (mu (ad (ad (mu z1 z2) (mu z1 z2)) (ad (mu (mu t1 t2) d) (mu (mu t1 t2) d))) (sb (ad (mu z1 z2) (mu z1 z2)) (ad (mu (mu t1 t2) d) (mu (mu t1 t2) d)))), (mu (sb (mu (ad y1 x1) (ad y2 x2)) (mu (sb y1 x1) (sb y2 x2))) (ad (mu (ad y1 x1) (ad y2 x2)) (mu (sb y1 x1) (sb y2 x2))))])] [eR 8, eR 11, nn, eR 9, eR 10, nn, eR 10, eR 11, nn, eR 8, eR 9, nn, nn, eS 3] ?_ ?_
  · exact oc (k_ld 8 0 (el (dig (sb (mu (ad y1 x1) (ad y2 x2)) (mu (sb y1 x1) (sb y2 x2))))) (c := ce (sb (mu (ad y1 x1) (ad y2 x2)) (mu (sb y1 x1) (sb y2 x2)))) (ldE (n := (sb (mu (ad y1 x1) (ad y2 x2)) (mu (sb y1 x1) (sb y2 x2)))) 42) rfl rfl) <|
    oc (k_ld 11 0 (el (dig (sb (ad (mu z1 z2) (mu z1 z2)) (ad (mu (mu t1 t2) d) (mu (mu t1 t2) d))))) (c := ce (sb (ad (mu z1 z2) (mu z1 z2)) (ad (mu (mu t1 t2) d) (mu (mu t1 t2) d)))) (ldE (n := (sb (ad (mu z1 z2) (mu z1 z2)) (ad (mu (mu t1 t2) d) (mu (mu t1 t2) d)))) 42) rfl rfl) <|
    oc (k_ca 56 #[el (dig (sb (mu (ad y1 x1) (ad y2 x2)) (mu (sb y1 x1) (sb y2 x2)))), el (dig (sb (ad (mu z1 z2) (mu z1 z2)) (ad (mu (mu t1 t2) d) (mu (mu t1 t2) d))))] (el (dig (mu (sb (mu (ad y1 x1) (ad y2 x2)) (mu (sb y1 x1) (sb y2 x2))) (sb (ad (mu z1 z2) (mu z1 z2)) (ad (mu (mu t1 t2) d) (mu (mu t1 t2) d)))))) (fun w => times_m (sb_lt _ _) (sb_lt _ _) w) rfl rfl) <|
    oc (k_ld 9 0 (el (dig (ad (mu (ad y1 x1) (ad y2 x2)) (mu (sb y1 x1) (sb y2 x2))))) (c := ce (ad (mu (ad y1 x1) (ad y2 x2)) (mu (sb y1 x1) (sb y2 x2)))) (ldE (n := (ad (mu (ad y1 x1) (ad y2 x2)) (mu (sb y1 x1) (sb y2 x2)))) 42) rfl rfl) <|
    oc (k_ld 10 0 (el (dig (ad (ad (mu z1 z2) (mu z1 z2)) (ad (mu (mu t1 t2) d) (mu (mu t1 t2) d))))) (c := ce (ad (ad (mu z1 z2) (mu z1 z2)) (ad (mu (mu t1 t2) d) (mu (mu t1 t2) d)))) (ldE (n := (ad (ad (mu z1 z2) (mu z1 z2)) (ad (mu (mu t1 t2) d) (mu (mu t1 t2) d)))) 42) rfl rfl) <|
    oc (k_ca 56 #[el (dig (ad (mu (ad y1 x1) (ad y2 x2)) (mu (sb y1 x1) (sb y2 x2)))), el (dig (ad (ad (mu z1 z2) (mu z1 z2)) (ad (mu (mu t1 t2) d) (mu (mu t1 t2) d))))] (el (dig (mu (ad (mu (ad y1 x1) (ad y2 x2)) (mu (sb y1 x1) (sb y2 x2))) (ad (ad (mu z1 z2) (mu z1 z2)) (ad (mu (mu t1 t2) d) (mu (mu t1 t2) d)))))) (fun w => times_m (ad_lt _ _) (ad_lt _ _) w) rfl rfl) <|
    oc (k_ld 10 0 (el (dig (ad (ad (mu z1 z2) (mu z1 z2)) (ad (mu (mu t1 t2) d) (mu (mu t1 t2) d))))) (c := ce (ad (ad (mu z1 z2) (mu z1 z2)) (ad (mu (mu t1 t2) d) (mu (mu t1 t2) d)))) (ldE (n := (ad (ad (mu z1 z2) (mu z1 z2)) (ad (mu (mu t1 t2) d) (mu (mu t1 t2) d)))) 42) rfl rfl) <|
    oc (k_ld 11 0 (el (dig (sb (ad (mu z1 z2) (mu z1 z2)) (ad (mu (mu t1 t2) d) (mu (mu t1 t2) d))))) (c := ce (sb (ad (mu z1 z2) (mu z1 z2)) (ad (mu (mu t1 t2) d) (mu (mu t1 t2) d)))) (ldE (n := (sb (ad (mu z1 z2) (mu z1 z2)) (ad (mu (mu t1 t2) d) (mu (mu t1 t2) d)))) 42) rfl rfl) <|
    oc (k_ca 56 #[el (dig (ad (ad (mu z1 z2) (mu z1 z2)) (ad (mu (mu t1 t2) d) (mu (mu t1 t2) d)))), el (dig (sb (ad (mu z1 z2) (mu z1 z2)) (ad (mu (mu t1 t2) d) (mu (mu t1 t2) d))))] (el (dig (mu (ad (ad (mu z1 z2) (mu z1 z2)) (ad (mu (mu t1 t2) d) (mu (mu t1 t2) d))) (sb (ad (mu z1 z2) (mu z1 z2)) (ad (mu (mu t1 t2) d) (mu (mu t1 t2) d)))))) (fun w => times_m (ad_lt _ _) (sb_lt _ _) w) rfl rfl) <|
    oc (k_ld 8 0 (el (dig (sb (mu (ad y1 x1) (ad y2 x2)) (mu (sb y1 x1) (sb y2 x2))))) (c := ce (sb (mu (ad y1 x1) (ad y2 x2)) (mu (sb y1 x1) (sb y2 x2)))) (ldE (n := (sb (mu (ad y1 x1) (ad y2 x2)) (mu (sb y1 x1) (sb y2 x2)))) 42) rfl rfl) <|
    oc (k_ld 9 0 (el (dig (ad (mu (ad y1 x1) (ad y2 x2)) (mu (sb y1 x1) (sb y2 x2))))) (c := ce (ad (mu (ad y1 x1) (ad y2 x2)) (mu (sb y1 x1) (sb y2 x2)))) (ldE (n := (ad (mu (ad y1 x1) (ad y2 x2)) (mu (sb y1 x1) (sb y2 x2)))) 42) rfl rfl) <|
    oc (k_ca 56 #[el (dig (sb (mu (ad y1 x1) (ad y2 x2)) (mu (sb y1 x1) (sb y2 x2)))), el (dig (ad (mu (ad y1 x1) (ad y2 x2)) (mu (sb y1 x1) (sb y2 x2))))] (el (dig (mu (sb (mu (ad y1 x1) (ad y2 x2)) (mu (sb y1 x1) (sb y2 x2))) (ad (mu (ad y1 x1) (ad y2 x2)) (mu (sb y1 x1) (sb y2 x2)))))) (fun w => times_m (sb_lt _ _) (ad_lt _ _) w) rfl rfl) <|
    oc (k_bu #[(0, el (dig (mu (sb (mu (ad y1 x1) (ad y2 x2)) (mu (sb y1 x1) (sb y2 x2))) (sb (ad (mu z1 z2) (mu z1 z2)) (ad (mu (mu t1 t2) d) (mu (mu t1 t2) d)))))), (1, el (dig (mu (ad (mu (ad y1 x1) (ad y2 x2)) (mu (sb y1 x1) (sb y2 x2))) (ad (ad (mu z1 z2) (mu z1 z2)) (ad (mu (mu t1 t2) d) (mu (mu t1 t2) d)))))), (2, el (dig (mu (ad (ad (mu z1 z2) (mu z1 z2)) (ad (mu (mu t1 t2) d) (mu (mu t1 t2) d))) (sb (ad (mu z1 z2) (mu z1 z2)) (ad (mu (mu t1 t2) d) (mu (mu t1 t2) d)))))), (3, el (dig (mu (sb (mu (ad y1 x1) (ad y2 x2)) (mu (sb y1 x1) (sb y2 x2))) (ad (mu (ad y1 x1) (ad y2 x2)) (mu (sb y1 x1) (sb y2 x2))))))] (.agg (ces [(mu (sb (mu (ad y1 x1) (ad y2 x2)) (mu (sb y1 x1) (sb y2 x2))) (sb (ad (mu z1 z2) (mu z1 z2)) (ad (mu (mu t1 t2) d) (mu (mu t1 t2) d)))), (mu (ad (mu (ad y1 x1) (ad y2 x2)) (mu (sb y1 x1) (sb y2 x2))) (ad (ad (mu z1 z2) (mu z1 z2)) (ad (mu (mu t1 t2) d) (mu (mu t1 t2) d)))), (mu (ad (ad (mu z1 z2) (mu z1 z2)) (ad (mu (mu t1 t2) d) (mu (mu t1 t2) d))) (sb (ad (mu z1 z2) (mu z1 z2)) (ad (mu (mu t1 t2) d) (mu (mu t1 t2) d)))), (mu (sb (mu (ad y1 x1) (ad y2 x2)) (mu (sb y1 x1) (sb y2 x2))) (ad (mu (ad y1 x1) (ad y2 x2)) (mu (sb y1 x1) (sb y2 x2))))])) (bdS (a := (mu (sb (mu (ad y1 x1) (ad y2 x2)) (mu (sb y1 x1) (sb y2 x2))) (sb (ad (mu z1 z2) (mu z1 z2)) (ad (mu (mu t1 t2) d) (mu (mu t1 t2) d))))) (b := (mu (ad (mu (ad y1 x1) (ad y2 x2)) (mu (sb y1 x1) (sb y2 x2))) (ad (ad (mu z1 z2) (mu z1 z2)) (ad (mu (mu t1 t2) d) (mu (mu t1 t2) d))))) (c := (mu (ad (ad (mu z1 z2) (mu z1 z2)) (ad (mu (mu t1 t2) d) (mu (mu t1 t2) d))) (sb (ad (mu z1 z2) (mu z1 z2)) (ad (mu (mu t1 t2) d) (mu (mu t1 t2) d))))) (d := (mu (sb (mu (ad y1 x1) (ad y2 x2)) (mu (sb y1 x1) (sb y2 x2))) (ad (mu (ad y1 x1) (ad y2 x2)) (mu (sb y1 x1) (sb y2 x2)))))) rfl rfl) <|
    oc (k_st 3 0 (.agg (ces [(mu (sb (mu (ad y1 x1) (ad y2 x2)) (mu (sb y1 x1) (sb y2 x2))) (sb (ad (mu z1 z2) (mu z1 z2)) (ad (mu (mu t1 t2) d) (mu (mu t1 t2) d)))), (mu (ad (mu (ad y1 x1) (ad y2 x2)) (mu (sb y1 x1) (sb y2 x2))) (ad (ad (mu z1 z2) (mu z1 z2)) (ad (mu (mu t1 t2) d) (mu (mu t1 t2) d)))), (mu (ad (ad (mu z1 z2) (mu z1 z2)) (ad (mu (mu t1 t2) d) (mu (mu t1 t2) d))) (sb (ad (mu z1 z2) (mu z1 z2)) (ad (mu (mu t1 t2) d) (mu (mu t1 t2) d)))), (mu (sb (mu (ad y1 x1) (ad y2 x2)) (mu (sb y1 x1) (sb y2 x2))) (ad (mu (ad y1 x1) (ad y2 x2)) (mu (sb y1 x1) (sb y2 x2))))])) (c := ces [0, 0, 0, 0]) (n := ces [(mu (sb (mu (ad y1 x1) (ad y2 x2)) (mu (sb y1 x1) (sb y2 x2))) (sb (ad (mu z1 z2) (mu z1 z2)) (ad (mu (mu t1 t2) d) (mu (mu t1 t2) d)))), (mu (ad (mu (ad y1 x1) (ad y2 x2)) (mu (sb y1 x1) (sb y2 x2))) (ad (ad (mu z1 z2) (mu z1 z2)) (ad (mu (mu t1 t2) d) (mu (mu t1 t2) d)))), (mu (ad (ad (mu z1 z2) (mu z1 z2)) (ad (mu (mu t1 t2) d) (mu (mu t1 t2) d))) (sb (ad (mu z1 z2) (mu z1 z2)) (ad (mu (mu t1 t2) d) (mu (mu t1 t2) d)))), (mu (sb (mu (ad y1 x1) (ad y2 x2)) (mu (sb y1 x1) (sb y2 x2))) (ad (mu (ad y1 x1) (ad y2 x2)) (mu (sb y1 x1) (sb y2 x2))))]) (stS (a := (mu (sb (mu (ad y1 x1) (ad y2 x2)) (mu (sb y1 x1) (sb y2 x2))) (sb (ad (mu z1 z2) (mu z1 z2)) (ad (mu (mu t1 t2) d) (mu (mu t1 t2) d))))) (b := (mu (ad (mu (ad y1 x1) (ad y2 x2)) (mu (sb y1 x1) (sb y2 x2))) (ad (ad (mu z1 z2) (mu z1 z2)) (ad (mu (mu t1 t2) d) (mu (mu t1 t2) d))))) (c := (mu (ad (ad (mu z1 z2) (mu z1 z2)) (ad (mu (mu t1 t2) d) (mu (mu t1 t2) d))) (sb (ad (mu z1 z2) (mu z1 z2)) (ad (mu (mu t1 t2) d) (mu (mu t1 t2) d))))) (d := (mu (sb (mu (ad y1 x1) (ad y2 x2)) (mu (sb y1 x1) (sb y2 x2))) (ad (mu (ad y1 x1) (ad y2 x2)) (mu (sb y1 x1) (sb y2 x2))))) (e := ces [0, 0, 0, 0]) 69 (by rw [ces_size]; rfl)) rfl rfl) <|
    ok_nil
  clear h; intro β a w h
  refine sym_then ?_
  refine wp_ret ?_
  exact s_rc (b := 3) (t0 := 69) (c := ces [(mu (sb (mu (ad y1 x1) (ad y2 x2)) (mu (sb y1 x1) (sb y2 x2))) (sb (ad (mu z1 z2) (mu z1 z2)) (ad (mu (mu t1 t2) d) (mu (mu t1 t2) d)))), (mu (ad (mu (ad y1 x1) (ad y2 x2)) (mu (sb y1 x1) (sb y2 x2))) (ad (ad (mu z1 z2) (mu z1 z2)) (ad (mu (mu t1 t2) d) (mu (mu t1 t2) d)))), (mu (ad (ad (mu z1 z2) (mu z1 z2)) (ad (mu (mu t1 t2) d) (mu (mu t1 t2) d))) (sb (ad (mu z1 z2) (mu z1 z2)) (ad (mu (mu t1 t2) d) (mu (mu t1 t2) d)))), (mu (sb (mu (ad y1 x1) (ad y2 x2)) (mu (sb y1 x1) (sb y2 x2))) (ad (mu (ad y1 x1) (ad y2 x2)) (mu (sb y1 x1) (sb y2 x2))))]) h Tryd.results38 Tryd.underlying69 (fun hb => ⟨rfl, hb⟩) (by rw [ces_size]; kernel_rfl)

end Go.Proofs.YtgojlikjcpnhjaaDoor

namespace Go.Proofs.YtgojlikjcpnhjaaDoor
open Go.RowKit

set_option maxHeartbeats 4000000 in
theorem plus_q {x1 b1 x2 b2 X Y Z T : Nat} (hx1 : x1 < pp) (hb1 : b1 < pp) (hx2 : x2 < pp) (hb2 : b2 < pp) (hX : X < pp) (hY : Y < pp) (hZ : Z < pp) (cS : ∀ w, Calls Tryd.prog 38 #[.agg (ces [dN]), .agg (ces [x1, ad b1 1, 1, mu x1 (ad b1 1)]), .agg (ces [x2, ad b2 1, 1, mu x2 (ad b2 1)])] w fun e w' => e = .returned (.agg (ces [X, Y, Z, T])) ∧ Below w.heap.size w w') (W0 : World) : Calls Tryd.prog 40 #[.agg (ces [x1, b1]), .agg (ces [x2, b2])] W0 fun e w' => e = .returned (.agg (ces [mu X (mu 1 (inv Z)), sb (mu Y (mu 1 (inv Z))) 1])) ∧ Below W0.heap.size W0 w' := by
  refine s_in Tryd.func40 Tryd.ntmps40 rfl [.inl (.agg (ces [x1, b1])), .inl (.agg (ces [x2, b2]))] ?_
  intro β a h
  refine sym_seq ?_
  refine St.rg h [(2, .inr (0, pt 0)), (3, .inr (1, pt 0)), (4, .inr (2, pt 0))] [(ces [x1, b1], 44), (ces [x2, b2], 44), (ces [0, 0], 44)] [] [eN 0, eN 1, eN 2] ?_ ?_
  · exact oc (k_bx 0 (.agg (ces [x1, b1])) (bxP (a := x1) (b := b1)) rfl rfl) <|
    oc (k_bx 1 (.agg (ces [x2, b2])) (bxP (a := x2) (b := b2)) rfl rfl) <|
    oc (k_al 2 alP rfl rfl) <|
    ok_nil
  clear h; intro β a w h
  refine sym_then ?_
  refine sym_seq ?_
  refine St.r0 h [(6, .inl (.agg (ces [dN]))), (7, .inl (.func (.func 38) #[.agg (ces [dN])] #[])), (5, .inl (.func (.func 38) #[.agg (ces [dN])] #[]))] [] ?_ ?_
  · exact oz (k_ca 37 #[] (.agg (ces [dN])) law_r rfl rfl) <|
    oz (k_mf #[.agg (ces [dN])] rfl rfl) <|
    oz (k_mv (.inr rfl) rfl) <|
    ok_nil
  clear h; intro β a w h
  refine sym_then ?_
  refine sym_seq ?_
  refine St.rg h [(8, .inl (.func (.func 38) #[.agg (ces [dN])] #[])), (9, .inl (.agg (ces [x1, b1]))), (10, .inl (.agg (ces [x1, (ad b1 1), 1, (mu x1 (ad b1 1))]))), (11, .inl (.agg (ces [x2, b2]))), (12, .inl (.agg (ces [x2, (ad b2 1), 1, (mu x2 (ad b2 1))]))), (13, .inl (.agg (ces [X, Y, Z, T]))), (14, .inl (.agg (ces [(mu X (mu 1 (inv Z))), (sb (mu Y (mu 1 (inv Z))) 1)])))] [] [(2, ces [(mu X (mu 1 (inv Z))), (sb (mu Y (mu 1 (inv Z))) 1)])] [nn, eR 0, nn, eR 1, nn, nn, nn, eS 2] ?_ ?_
  · exact oc (k_mv (.inl rfl) rfl) <|
    oc (k_ld 0 0 (.agg (ces [x1, b1])) (c := ces [x1, b1]) (ldP (a := x1) (b := b1) 44) rfl rfl) <|
    oc (k_ca 36 #[.agg (ces [x1, b1])] (.agg (ces [x1, (ad b1 1), 1, (mu x1 (ad b1 1))])) (fun w => shared_r hx1 hb1 w) rfl rfl) <|
    oc (k_ld 1 0 (.agg (ces [x2, b2])) (c := ces [x2, b2]) (ldP (a := x2) (b := b2) 44) rfl rfl) <|
    oc (k_ca 36 #[.agg (ces [x2, b2])] (.agg (ces [x2, (ad b2 1), 1, (mu x2 (ad b2 1))])) (fun w => shared_r hx2 hb2 w) rfl rfl) <|
    oc (k_cv #[.agg (ces [dN])] #[.agg (ces [x1, (ad b1 1), 1, (mu x1 (ad b1 1))]), .agg (ces [x2, (ad b2 1), 1, (mu x2 (ad b2 1))])] #[.agg (ces [dN]), .agg (ces [x1, (ad b1 1), 1, (mu x1 (ad b1 1))]), .agg (ces [x2, (ad b2 1), 1, (mu x2 (ad b2 1))])] (.agg (ces [X, Y, Z, T])) cS rfl rfl) <|
    oc (k_ca 39 #[.agg (ces [X, Y, Z, T])] (.agg (ces [(mu X (mu 1 (inv Z))), (sb (mu Y (mu 1 (inv Z))) 1)])) (fun w => point_r hX hY hZ w) rfl rfl) <|
    oc (k_st 2 0 (.agg (ces [(mu X (mu 1 (inv Z))), (sb (mu Y (mu 1 (inv Z))) 1)])) (c := ces [0, 0]) (n := ces [(mu X (mu 1 (inv Z))), (sb (mu Y (mu 1 (inv Z))) 1)]) (stP (a := (mu X (mu 1 (inv Z)))) (b := (sb (mu Y (mu 1 (inv Z))) 1)) (c := ces [0, 0]) 44 (by rw [ces_size]; rfl)) rfl rfl) <|
    ok_nil
  clear h; intro β a w h
  refine sym_then ?_
  refine wp_ret ?_
  exact s_rc (b := 2) (t0 := 44) (c := ces [(mu X (mu 1 (inv Z))), (sb (mu Y (mu 1 (inv Z))) 1)]) h Tryd.results40 Tryd.underlying44 (fun hb => ⟨rfl, hb⟩) (by rw [ces_size]; kernel_rfl)

/-- The sum's four numbers. -/
def pX (x1 b1 x2 b2 : Nat) : Nat := (mu (sb (mu (ad (ad b1 1) x1) (ad (ad b2 1) x2)) (mu (sb (ad b1 1) x1) (sb (ad b2 1) x2))) (sb (ad (mu 1 1) (mu 1 1)) (ad (mu (mu (mu x1 (ad b1 1)) (mu x2 (ad b2 1))) dN) (mu (mu (mu x1 (ad b1 1)) (mu x2 (ad b2 1))) dN))))
def pY (x1 b1 x2 b2 : Nat) : Nat := (mu (ad (mu (ad (ad b1 1) x1) (ad (ad b2 1) x2)) (mu (sb (ad b1 1) x1) (sb (ad b2 1) x2))) (ad (ad (mu 1 1) (mu 1 1)) (ad (mu (mu (mu x1 (ad b1 1)) (mu x2 (ad b2 1))) dN) (mu (mu (mu x1 (ad b1 1)) (mu x2 (ad b2 1))) dN))))
def pZ (x1 b1 x2 b2 : Nat) : Nat := (mu (ad (ad (mu 1 1) (mu 1 1)) (ad (mu (mu (mu x1 (ad b1 1)) (mu x2 (ad b2 1))) dN) (mu (mu (mu x1 (ad b1 1)) (mu x2 (ad b2 1))) dN))) (sb (ad (mu 1 1) (mu 1 1)) (ad (mu (mu (mu x1 (ad b1 1)) (mu x2 (ad b2 1))) dN) (mu (mu (mu x1 (ad b1 1)) (mu x2 (ad b2 1))) dN))))
def sx (x1 b1 x2 b2 : Nat) : Nat := mu (pX x1 b1 x2 b2) (mu 1 (inv (pZ x1 b1 x2 b2)))
def sy (x1 b1 x2 b2 : Nat) : Nat := mu (pY x1 b1 x2 b2) (mu 1 (inv (pZ x1 b1 x2 b2)))
theorem plus_p {x1 b1 x2 b2 : Nat} (hx1 : x1 < pp) (hb1 : b1 < pp) (hx2 : x2 < pp) (hb2 : b2 < pp) (W0 : World) : Calls Tryd.prog 40 #[.agg (ces [x1, b1]), .agg (ces [x2, b2])] W0 fun e w' => e = .returned (.agg (ces [sx x1 b1 x2 b2, sb (sy x1 b1 x2 b2) 1])) ∧ Below W0.heap.size W0 w' :=
  plus_q (X := pX x1 b1 x2 b2) (Y := pY x1 b1 x2 b2) (Z := pZ x1 b1 x2 b2) (T := (mu (sb (mu (ad (ad b1 1) x1) (ad (ad b2 1) x2)) (mu (sb (ad b1 1) x1) (sb (ad b2 1) x2))) (ad (mu (ad (ad b1 1) x1) (ad (ad b2 1) x2)) (mu (sb (ad b1 1) x1) (sb (ad b2 1) x2))))) hx1 hb1 hx2 hb2 (mu_lt _ _) (mu_lt _ _) (mu_lt _ _) (fun w => sum_r dN_lt hx1 (ad_lt _ _) one_ltp (mu_lt _ _) hx2 (ad_lt _ _) one_ltp (mu_lt _ _) w) W0

set_option maxHeartbeats 4000000 in
theorem minus_p {x1 b1 x2 b2 : Nat} (hx1 : x1 < pp) (hb1 : b1 < pp) (hx2 : x2 < pp) (hb2 : b2 < pp) (W0 : World) : Calls Tryd.prog 18 #[.agg (ces [x1, b1]), .agg (ces [x2, b2])] W0 fun e w' => e = .returned (.agg (ces [sx x1 b1 (sb 0 x2) b2, sb (sy x1 b1 (sb 0 x2) b2) 1])) ∧ Below W0.heap.size W0 w' := by
  refine s_in Tryd.func18 Tryd.ntmps18 rfl [.inl (.agg (ces [x1, b1])), .inl (.agg (ces [x2, b2]))] ?_
  intro β a h
  refine sym_seq ?_
  refine St.rg h [(2, .inr (0, pt 0)), (3, .inr (1, pt 0)), (4, .inr (2, pt 0))] [(ces [x1, b1], 44), (ces [x2, b2], 44), (ces [0, 0], 44)] [] [eN 0, eN 1, eN 2] ?_ ?_
  · exact oc (k_bx 0 (.agg (ces [x1, b1])) (bxP (a := x1) (b := b1)) rfl rfl) <|
    oc (k_bx 1 (.agg (ces [x2, b2])) (bxP (a := x2) (b := b2)) rfl rfl) <|
    oc (k_al 2 alP rfl rfl) <|
    ok_nil
  clear h; intro β a w h
  refine sym_then ?_
  refine sym_seq ?_
  refine St.rg h [(5, .inl (.agg (ces [x1, b1]))), (6, .inl (el (dig 0))), (7, .inr (1, pt 0)), (8, .inl (el (dig x2))), (9, .inl (el (dig (sb 0 x2)))), (10, .inr (1, pt 4)), (11, .inl (el (dig b2))), (12, .inl (.agg (ces [(sb 0 x2), b2]))), (13, .inl (.agg (ces [(sx x1 b1 (sb 0 x2) b2), (sb (sy x1 b1 (sb 0 x2) b2) 1)])))] [] [(2, ces [(sx x1 b1 (sb 0 x2) b2), (sb (sy x1 b1 (sb 0 x2) b2) 1)])] [eR 0, nn, nn, eR 1, nn, nn, eR 1, nn, nn, eS 2] ?_ ?_
  · exact oc (k_ld 0 0 (.agg (ces [x1, b1])) (c := ces [x1, b1]) (ldP (a := x1) (b := b1) 44) rfl rfl) <|
    oc (k_bu #[] (el (dig 0)) bdE rfl rfl) <|
    oc (k_fa 1 0 0 rfl rfl) <|
    oc (k_ld 1 0 (el (dig x2)) (c := ces [x2, b2]) (ld_ces (l := [x2, b2]) (k := 0) (n := x2) 44 rfl) rfl rfl) <|
    oc (k_ca 31 #[el (dig 0), el (dig x2)] (el (dig (sb 0 x2))) (fun w => minus_m (by decide +kernel) hx2 w) rfl rfl) <|
    oc (k_fa 1 0 4 rfl rfl) <|
    oc (k_ld 1 4 (el (dig b2)) (c := ces [x2, b2]) (ld_ces (l := [x2, b2]) (k := 1) (n := b2) 44 rfl) rfl rfl) <|
    oc (k_bu #[(0, el (dig (sb 0 x2))), (1, el (dig b2))] (.agg (ces [(sb 0 x2), b2])) (bdP (a := (sb 0 x2)) (b := b2)) rfl rfl) <|
    oc (k_ca 40 #[.agg (ces [x1, b1]), .agg (ces [(sb 0 x2), b2])] (.agg (ces [(sx x1 b1 (sb 0 x2) b2), (sb (sy x1 b1 (sb 0 x2) b2) 1)])) (fun w => plus_p hx1 hb1 (sb_lt _ _) hb2 w) rfl rfl) <|
    oc (k_st 2 0 (.agg (ces [(sx x1 b1 (sb 0 x2) b2), (sb (sy x1 b1 (sb 0 x2) b2) 1)])) (c := ces [0, 0]) (n := ces [(sx x1 b1 (sb 0 x2) b2), (sb (sy x1 b1 (sb 0 x2) b2) 1)]) (stP (a := (sx x1 b1 (sb 0 x2) b2)) (b := (sb (sy x1 b1 (sb 0 x2) b2) 1)) (c := ces [0, 0]) 44 (by rw [ces_size]; rfl)) rfl rfl) <|
    ok_nil
  clear h; intro β a w h
  refine sym_then ?_
  refine wp_ret ?_
  exact s_rc (b := 2) (t0 := 44) (c := ces [(sx x1 b1 (sb 0 x2) b2), (sb (sy x1 b1 (sb 0 x2) b2) 1)]) h Tryd.results18 Tryd.underlying44 (fun hb => ⟨rfl, hb⟩) (by rw [ces_size]; kernel_rfl)

set_option maxHeartbeats 4000000 in
theorem gen_r (W0 : World) : Calls Tryd.prog 16 #[] W0 fun e w' => e = .returned (.agg (ces [gX, sb (mu 4 (inv 5)) 1])) ∧ Below W0.heap.size W0 w' := by
  refine s_in Tryd.func16 Tryd.ntmps16 rfl [] ?_
  intro β a h
  refine sym_seq ?_
  refine St.rg h [(0, .inr (0, pt 0))] [(ces [0, 0], 44)] [] [eN 0] ?_ ?_
  · exact oc (k_al 0 alP rfl rfl) <|
    ok_nil
  clear h; intro β a w h
  refine sym_then ?_
  refine sym_seq ?_
  refine St.rg h [(2, .inl (.agg (ck (kl [26, 213, 37, 143, 96, 45, 86, 201, 178, 167, 37, 149, 96, 199, 44, 105, 92, 220, 214, 253, 49, 226, 164, 192, 254, 83, 110, 205, 211, 54, 105, 33])))), (3, .inl (el (dig gX))), (1, .inr (1, pt 0))] [(ce 0, 42)] [(1, ce gX)] [nn, nn, eN 1, eS 1] ?_ ?_
  · exact oc (k_bu #[(0, .int .u8 ((26 : Nat) : Int)), (1, .int .u8 ((213 : Nat) : Int)), (2, .int .u8 ((37 : Nat) : Int)), (3, .int .u8 ((143 : Nat) : Int)), (4, .int .u8 ((96 : Nat) : Int)), (5, .int .u8 ((45 : Nat) : Int)), (6, .int .u8 ((86 : Nat) : Int)), (7, .int .u8 ((201 : Nat) : Int)), (8, .int .u8 ((178 : Nat) : Int)), (9, .int .u8 ((167 : Nat) : Int)), (10, .int .u8 ((37 : Nat) : Int)), (11, .int .u8 ((149 : Nat) : Int)), (12, .int .u8 ((96 : Nat) : Int)), (13, .int .u8 ((199 : Nat) : Int)), (14, .int .u8 ((44 : Nat) : Int)), (15, .int .u8 ((105 : Nat) : Int)), (16, .int .u8 ((92 : Nat) : Int)), (17, .int .u8 ((220 : Nat) : Int)), (18, .int .u8 ((214 : Nat) : Int)), (19, .int .u8 ((253 : Nat) : Int)), (20, .int .u8 ((49 : Nat) : Int)), (21, .int .u8 ((226 : Nat) : Int)), (22, .int .u8 ((164 : Nat) : Int)), (23, .int .u8 ((192 : Nat) : Int)), (24, .int .u8 ((254 : Nat) : Int)), (25, .int .u8 ((83 : Nat) : Int)), (26, .int .u8 ((110 : Nat) : Int)), (27, .int .u8 ((205 : Nat) : Int)), (28, .int .u8 ((211 : Nat) : Int)), (29, .int .u8 ((54 : Nat) : Int)), (30, .int .u8 ((105 : Nat) : Int)), (31, .int .u8 ((33 : Nat) : Int))] (.agg (ck (kl [26, 213, 37, 143, 96, 45, 86, 201, 178, 167, 37, 149, 96, 199, 44, 105, 92, 220, 214, 253, 49, 226, 164, 192, 254, 83, 110, 205, 211, 54, 105, 33]))) (fun w => by kernel_rfl) rfl rfl) <|
    oc (k_ca 27 #[.agg (ck (kl [26, 213, 37, 143, 96, 45, 86, 201, 178, 167, 37, 149, 96, 199, 44, 105, 92, 220, 214, 253, 49, 226, 164, 192, 254, 83, 110, 205, 211, 54, 105, 33]))] (el (dig gX)) (fun w => by have := of_k (b := (kl [26, 213, 37, 143, 96, 45, 86, 201, 178, 167, 37, 149, 96, 199, 44, 105, 92, 220, 214, 253, 49, 226, 164, 192, 254, 83, 110, 205, 211, 54, 105, 33])) (kl_lt (by decide)) w; rwa [show ofb (kl [26, 213, 37, 143, 96, 45, 86, 201, 178, 167, 37, 149, 96, 199, 44, 105, 92, 220, 214, 253, 49, 226, 164, 192, 254, 83, 110, 205, 211, 54, 105, 33]) = gX by decide +kernel] at this) rfl rfl) <|
    oc (k_al 1 alE rfl rfl) <|
    oc (k_st 1 0 (el (dig gX)) (c := ce 0) (n := ce gX) (stE (n := gX) (c := ce 0) 42 (ce_size _)) rfl rfl) <|
    ok_nil
  clear h; intro β a w h
  refine sym_then ?_
  refine sym_seq ?_
  refine St.rg h [(4, .inl (el (dig gX))), (5, .inl (el (dig 4))), (6, .inl (el (dig 5))), (7, .inl (el (dig (mu 4 (inv 5))))), (8, .inl (.agg (ces [gX, (sb (mu 4 (inv 5)) 1)])))] [] [(0, ces [gX, (sb (mu 4 (inv 5)) 1)])] [eR 1, nn, nn, nn, nn, eS 0] ?_ ?_
  · exact oc (k_ld 1 0 (el (dig gX)) (c := ce gX) (ldE (n := gX) 42) rfl rfl) <|
    oc (k_ca 33 #[.int .i64 ((4 : Nat) : Int)] (el (dig 4)) (fun w => int_m (m := 4) (by decide) w) rfl rfl) <|
    oc (k_ca 33 #[.int .i64 ((5 : Nat) : Int)] (el (dig 5)) (fun w => int_m (m := 5) (by decide) w) rfl rfl) <|
    oc (k_ca 34 #[el (dig 4), el (dig 5)] (el (dig (mu 4 (inv 5)))) (fun w => over_m four_ltp five_ltp w) rfl rfl) <|
    oc (k_ca 32 #[el (dig gX), el (dig (mu 4 (inv 5)))] (.agg (ces [gX, (sb (mu 4 (inv 5)) 1)])) (fun w => at_r (mu_lt _ _) w) rfl rfl) <|
    oc (k_st 0 0 (.agg (ces [gX, (sb (mu 4 (inv 5)) 1)])) (c := ces [0, 0]) (n := ces [gX, (sb (mu 4 (inv 5)) 1)]) (stP (a := gX) (b := (sb (mu 4 (inv 5)) 1)) (c := ces [0, 0]) 44 (by rw [ces_size]; rfl)) rfl rfl) <|
    ok_nil
  clear h; intro β a w h
  refine sym_then ?_
  refine wp_ret ?_
  exact s_rc (b := 0) (t0 := 44) (c := ces [gX, (sb (mu 4 (inv 5)) 1)]) h Tryd.results16 Tryd.underlying44 (fun hb => ⟨rfl, hb⟩) (by rw [ces_size]; kernel_rfl)
end Go.Proofs.YtgojlikjcpnhjaaDoor

namespace Go.Proofs.YtgojlikjcpnhjaaDoor
open Go.RowKit

set_option maxRecDepth 100000 in
theorem eqK_run (F G : Nat → Nat) (w : World) : ∃ b : Bool, (b = true ↔ ∀ i, i < 32 → F i = G i) ∧ (Op.equalIn 10000 23 (.agg (ck F)) (.agg (ck G))).run Tryd.prog w = .ok b w := by
  refine ⟨_, ?_, eq_ints (P := Tryd.prog) (t := 23) (e := 5) (n := 32) (k := .u8) (k' := .u8) Tryd.underlying23 (inf := _) rfl (by kernel_rfl) Tryd.underlying5 (fun _ => by kernel_rfl) (ck F) (ck G) (fun i => (F i : Int)) (fun i => (G i : Int)) (fun i hi => arr_get _ _ _ hi) (fun i hi => arr_get _ _ _ hi) w⟩
  rw [decide_eq_true_eq]
  constructor <;> intro hh i hi <;> have := hh i hi <;> omega
section
variable {x u : Operand}
theorem neK_f {F G : Nat → Nat} (h : ∀ i, i < 32 → F i = G i) (w : World) : (do eqGuard .neq 23 x u (.agg (ck F)) (.agg (ck G)); binOp .neq 23 (.agg (ck F)) (.agg (ck G))).run Tryd.prog w = .ok (.bool false) w := by
  obtain ⟨b, hb, h1⟩ := eqK_run F G w
  obtain rfl : b = true := hb.2 h
  simp [eqGuard, binOp, go_sem, Op.equal, Op.maxDepth, h1]
theorem neK_t {F G : Nat → Nat} (h : ¬ ∀ i, i < 32 → F i = G i) (w : World) : (do eqGuard .neq 23 x u (.agg (ck F)) (.agg (ck G)); binOp .neq 23 (.agg (ck F)) (.agg (ck G))).run Tryd.prog w = .ok (.bool true) w := by
  obtain ⟨b, hb, h1⟩ := eqK_run F G w
  obtain rfl : b = false := by
    cases b with
    | false => rfl
    | true => exact absurd (hb.1 rfl) h
  simp [eqGuard, binOp, go_sem, Op.equal, Op.maxDepth, h1]
theorem eqK_f {F G : Nat → Nat} (h : ¬ ∀ i, i < 32 → F i = G i) (w : World) : (do eqGuard .eql 23 x u (.agg (ck F)) (.agg (ck G)); binOp .eql 23 (.agg (ck F)) (.agg (ck G))).run Tryd.prog w = .ok (.bool false) w := by
  obtain ⟨b, hb, h1⟩ := eqK_run F G w
  obtain rfl : b = false := by
    cases b with
    | false => rfl
    | true => exact absurd (hb.1 rfl) h
  simp [eqGuard, binOp, go_sem, Op.equal, Op.maxDepth, h1]
end
/-- An element's last byte has no topmost bit. -/
theorem byt_top {n : Nat} (hn : n < pp) : byt (dig n) 31 < 128 := by
  show dig n 3 / 256 ^ 7 % 256 < 128
  have h : dig n 3 = n / 6277101735386680763835789423207666416102355444464034512896 % 18446744073709551616 := rfl
  rw [h]
  have hp : pp = 57896044618658097711785492504343953926634992332820282019728792003956564819949 := rfl
  rw [hp] at hn
  have h2 : n / 6277101735386680763835789423207666416102355444464034512896 < 9223372036854775808 := by omega
  generalize n / 6277101735386680763835789423207666416102355444464034512896 = q at *
  rw [Nat.mod_eq_of_lt (by omega)]
  have h3 : q / 256 ^ 7 < 128 := by
    rw [Nat.div_lt_iff_lt_mul (by decide)]
    exact h2
  omega
end Go.Proofs.YtgojlikjcpnhjaaDoor

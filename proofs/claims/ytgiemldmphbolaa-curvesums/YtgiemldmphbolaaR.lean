/- The contracts of inverse: the power by the prime less 2. -/
import Derived.Test.YtgiemldmphbolaaL
import Derived.Test.YtgiemldmphbolaaW7
namespace Go.Proofs.Ytgiemldmphbolaa
open Go.RowKit

theorem cells_of_row {u : World} {p : Nat} {x : Nat → Nat} {t : TypeId} (h : u.heap[p]? = some (.cells (cs x) t (0, 0))) :
    u.cell? ⟨p, 0, none⟩ = some (.int .u64 (x 0)) ∧ u.cell? ⟨p, 1, none⟩ = some (.int .u64 (x 1)) ∧ u.cell? ⟨p, 2, none⟩ = some (.int .u64 (x 2)) ∧ u.cell? ⟨p, 3, none⟩ = some (.int .u64 (x 3)) := by
  refine ⟨?_, ?_, ?_, ?_⟩ <;> rw [cell_of_row _ _ _ _ _ _ h] <;> rfl

theorem pw_mul {X a y e f z : Nat} (ha : a = X ^ e % pp) (hy : y = X ^ f % pp) (hz : z = a * y % pp) : z = X ^ (e + f) % pp := by
  rw [hz, ha, hy, Nat.pow_add, ← Nat.mul_mod]

theorem inv_pow {X E z s f g h l y : Nat} (hE : E = 1809251394333065553493296640760748560207343510400633813116524750123642650623) (hz : z = X ^ E % pp) (hs : s = X * X % pp) (hf : f = s * s % pp) (hg : g = f * f % pp) (hh : h = g * s % pp) (hl : l = h * X % pp)
    (hy : y = z ^ (2 ^ 5) * l % pp) (hX : X < pp) : ∃ e : Nat, e = 57896044618658097711785492504343953926634992332820282019728792003956564819947 ∧ y = X ^ e % pp := by
  have h1 : X = X ^ 1 % pp := by rw [Nat.pow_one, Nat.mod_eq_of_lt hX]
  have h2 := pw_mul h1 h1 hs
  have h4 := pw_mul h2 h2 hf
  have h8 := pw_mul h4 h4 hg
  have h10 := pw_mul h8 h2 hh
  have h11 := pw_mul h10 h1 hl
  have h := pw_step hz h11 hy
  exact ⟨_, by rw [hE], h⟩

theorem times_fn : ∃ tm : (Nat → Nat) → (Nat → Nat) → (Nat → Nat), ∀ x y, Ok x → Ok y → Ok (tm x y) ∧ Hid (nm (tm x y) = nm x * nm y % pp) ∧
    ∀ w, Calls Try.prog 60 #[el x, el y] w fun e w' => e = .returned (el (tm x y)) ∧ Below w.heap.size w w' := by
  have h : ∀ x, ∃ f : (Nat → Nat) → (Nat → Nat), ∀ y, Ok x → Ok y → Ok (f y) ∧ Hid (nm (f y) = nm x * nm y % pp) ∧ ∀ w, Calls Try.prog 60 #[el x, el y] w fun e w' => e = .returned (el (f y)) ∧ Below w.heap.size w w' := by
    intro x
    refine Classical.axiomOfChoice (r := fun y z => Ok x → Ok y → Ok z ∧ Hid (nm z = nm x * nm y % pp) ∧ ∀ w, Calls Try.prog 60 #[el x, el y] w fun e w' => e = .returned (el z) ∧ Below w.heap.size w w') (fun y => ?_)
    by_cases hx : Ok x
    · by_cases hy : Ok y
      · obtain ⟨z, h1, h2, h3⟩ := times_el x y hx hy
        exact ⟨z, fun _ _ => ⟨h1, h2, h3⟩⟩
      · exact ⟨x, fun _ h => absurd h hy⟩
    · exact ⟨x, fun h => absurd h hx⟩
  exact Classical.axiomOfChoice (r := fun x (f : (Nat → Nat) → (Nat → Nat)) => ∀ y, Ok x → Ok y → Ok (f y) ∧ Hid (nm (f y) = nm x * nm y % pp) ∧ ∀ w, Calls Try.prog 60 #[el x, el y] w fun e w' => e = .returned (el (f y)) ∧ Below w.heap.size w w') h

set_option maxRecDepth 100000 in
set_option maxHeartbeats 4000000 in
theorem inverse_any (x : Nat → Nat) (hx : Ok x) (w : World) :
    Calls Try.prog 74 #[el x] w fun e w' => ∃ (z : Nat → Nat) (k : Nat), Ok z ∧ Hid (k = 57896044618658097711785492504343953926634992332820282019728792003956564819947) ∧ Hid (nm z = nm x ^ k % pp) ∧ e = .returned (el z) ∧ Below w.heap.size w w' := by
  obtain ⟨s, hs, es, c1⟩ := times_el x x hx hx
  obtain ⟨f, hf, ef, c2⟩ := times_el s s hs hs
  obtain ⟨tm, htm⟩ := times_fn
  obtain ⟨hg, eg, _⟩ := htm f f hf hf
  obtain ⟨hh, eh, _⟩ := htm (tm f f) s hg hs
  obtain ⟨hl, e11, _⟩ := htm (tm (tm f f) s) x hh hx
  have ctm : ∀ x y, Ok x → Ok y → ∀ w, Calls Try.prog 60 #[el x, el y] w fun e w' => e = .returned (el (tm x y)) ∧ Below w.heap.size w w' := fun x y hx hy => (htm x y hx hy).2.2
  clear htm
  go_enter Try.func74, Try.ntmps74
  have ra := row2_0 w (.cells (cs x) 29) (.cells #[.int .u64 0, .int .u64 0, .int .u64 0, .int .u64 0] 29)
  have rr := row2_1 w (.cells (cs x) 29) (.cells #[.int .u64 0, .int .u64 0, .int .u64 0, .int .u64 0] 29)
  go_wp2_with fail
  refine (c1 _).mono ?_
  rintro e u1 ⟨rfl, hb1⟩
  replace ra := row_up (o := .cells (cs s) 29) (row_below ra hb1)
  replace rr := row_up (o := .cells (cs s) 29) (row_below rr hb1)
  have hw := below_up (bnext (below2 _ _ _) hb1) (.cells (cs s) 29)
  have rs := row_new u1 (.cells (cs s) 29)
  clear hb1 c1
  go_wp2_with (refine wpList_load_agg rfl 29 (.tmp 3) rfl u1.heap.size _ _ rfl Try.underlying29 rfl (by kernel_rfl) rs ?_)
  refine (c2 _).mono ?_
  rintro e u2 ⟨rfl, hb2⟩
  replace ra := row_up (o := .cells (cs f) 29) (row_below ra hb2)
  replace rr := row_up (o := .cells (cs f) 29) (row_below rr hb2)
  replace rs := row_up (o := .cells (cs f) 29) (row_below rs hb2)
  replace hw := below_up (bnext hw hb2) (.cells (cs f) 29)
  have rf := row_new u2 (.cells (cs f) 29)
  clear hb2 c2
  go_wp2_with fail
  generalize (u2.alloc (.cells (cs f) 29)) = U at *
  generalize u1.heap.size = ps at *
  generalize u2.heap.size = pf at *
  refine wp_region_inv (by kernel_rfl) (acyc_of (by kernel_rfl)) (fun D a wr => ∃ v5 v13 v14 v15 v16 v17 v18 v19 : Value, a = { tmps := #[el x, .pointer (some ⟨w.heap.size, 0, none⟩), .pointer (some ⟨w.heap.size + 1, 0, none⟩), .pointer (some ⟨ps, 0, none⟩), .pointer (some ⟨pf, 0, none⟩), v5, undef, el x, el x, el s, el s, el s, el f, v13, v14, v15, v16, v17, v18, v19, undef, undef, undef, undef, undef], defers := [] } ∧ (D 0 = true → v13 = el f) ∧ (D 1 = true → v14 = el f) ∧ (D 2 = true → v15 = el (tm f f)) ∧ (D 3 = true → v16 = el s) ∧ (D 4 = true → v17 = el (tm (tm f f) s)) ∧ (D 5 = true → v18 = el x) ∧ (D 6 = true → v19 = el (tm (tm (tm f f) s) x)) ∧ (D 8 = true → D 7 = true) ∧ Below U.heap.size U wr ∧ (D 7 = true → ∃ p : Nat, v5 = .pointer (some ⟨p, 0, none⟩) ∧ U.heap.size ≤ p ∧ ∃ c : Array Value, wr.heap[p]? = some (.cells c 29 (0, 0)) ∧ c.size = 4 ∧ (D 8 = true → c = (cs (tm (tm (tm f f) s) x))))) ?_ ?_ ?_
  · exact ⟨undef, undef, undef, undef, undef, undef, undef, undef, rfl, by simp, by simp, by simp, by simp, by simp, by simp, by simp, by simp, (Below.refl _ _).drew, by simp⟩
  · intro D a wr hinv i o ho hD hdep K hK
    obtain ⟨v5, v13, v14, v15, v16, v17, v18, v19, rfl, h0, h1, h2, h3, h4, h5, h6, h8, hb, h7⟩ := hinv
    have hi : i < 9 := (Array.getElem?_eq_some_iff.1 ho).1
    obtain rfl | rfl | rfl | rfl | rfl | rfl | rfl | rfl | rfl : i = 0 ∨ i = 1 ∨ i = 2 ∨ i = 3 ∨ i = 4 ∨ i = 5 ∨ i = 6 ∨ i = 7 ∨ i = 8 := by omega
    · cases ho
      refine ⟨rfl, oper_load 29 (.tmp 4) rfl pf (cs f) _ rfl Try.underlying29 rfl (by kernel_rfl) (row_below rf hb) (hK _ _ ⟨v5, el f, v14, v15, v16, v17, v18, v19, rfl, fun _ => rfl, fun h => h1 (by simpa using h), fun h => h2 (by simpa using h), fun h => h3 (by simpa using h), fun h => h4 (by simpa using h), fun h => h5 (by simpa using h), fun h => h6 (by simpa using h), fun h => by have := h8 (by simpa using h); simpa using this, hb, fun h => by
        obtain ⟨p, e1, e2, c, e3, e4, e5⟩ := h7 (by simpa using h)
        exact ⟨p, e1, e2, c, e3, e4, fun h => e5 (by simpa using h)⟩⟩)⟩
    · cases ho
      refine ⟨rfl, oper_load 29 (.tmp 4) rfl pf (cs f) _ rfl Try.underlying29 rfl (by kernel_rfl) (row_below rf hb) (hK _ _ ⟨v5, v13, el f, v15, v16, v17, v18, v19, rfl, fun h => h0 (by simpa using h), fun _ => rfl, fun h => h2 (by simpa using h), fun h => h3 (by simpa using h), fun h => h4 (by simpa using h), fun h => h5 (by simpa using h), fun h => h6 (by simpa using h), fun h => by have := h8 (by simpa using h); simpa using this, hb, fun h => by
        obtain ⟨p, e1, e2, c, e3, e4, e5⟩ := h7 (by simpa using h)
        exact ⟨p, e1, e2, c, e3, e4, fun h => e5 (by simpa using h)⟩⟩)⟩
    · cases ho
      have d0 := h0 (hdep { on := 0, ground := .data } (by simp) rfl)
      subst d0
      have d1 := h1 (hdep { on := 1, ground := .data } (by simp) rfl)
      subst d1
      refine ⟨rfl, oper_call 60 #[.tmp 13, .tmp 14] _ rfl #[el f, el f] (by simp only [List.map_toArray, List.map_cons, List.map_nil]; rfl) (fun w => by kernel_rfl) (ctm f f hf hf _) (fun w' hb' => hK _ _ ⟨v5, (el f), (el f), el (tm f f), v16, v17, v18, v19, rfl, fun _ => rfl, fun _ => rfl, fun _ => rfl, fun h => h3 (by simpa using h), fun h => h4 (by simpa using h), fun h => h5 (by simpa using h), fun h => h6 (by simpa using h), fun h => by have := h8 (by simpa using h); simpa using this, bnext hb hb', fun h => by
        obtain ⟨p, e1, e2, c, e3, e4, e5⟩ := h7 (by simpa using h)
        exact ⟨p, e1, e2, c, row_below e3 hb', e4, fun h => e5 (by simpa using h)⟩⟩)⟩
    · cases ho
      refine ⟨rfl, oper_load 29 (.tmp 3) rfl ps (cs s) _ rfl Try.underlying29 rfl (by kernel_rfl) (row_below rs hb) (hK _ _ ⟨v5, v13, v14, v15, el s, v17, v18, v19, rfl, fun h => h0 (by simpa using h), fun h => h1 (by simpa using h), fun h => h2 (by simpa using h), fun _ => rfl, fun h => h4 (by simpa using h), fun h => h5 (by simpa using h), fun h => h6 (by simpa using h), fun h => by have := h8 (by simpa using h); simpa using this, hb, fun h => by
        obtain ⟨p, e1, e2, c, e3, e4, e5⟩ := h7 (by simpa using h)
        exact ⟨p, e1, e2, c, e3, e4, fun h => e5 (by simpa using h)⟩⟩)⟩
    · cases ho
      have d2 := h2 (hdep { on := 2, ground := .data } (by simp) rfl)
      subst d2
      have d3 := h3 (hdep { on := 3, ground := .data } (by simp) rfl)
      subst d3
      refine ⟨rfl, oper_call 60 #[.tmp 15, .tmp 16] _ rfl #[el (tm f f), el s] (by simp only [List.map_toArray, List.map_cons, List.map_nil]; rfl) (fun w => by kernel_rfl) (ctm (tm f f) s hg hs _) (fun w' hb' => hK _ _ ⟨v5, v13, v14, (el (tm f f)), (el s), el (tm (tm f f) s), v18, v19, rfl, fun h => h0 (by simpa using h), fun h => h1 (by simpa using h), fun _ => rfl, fun _ => rfl, fun _ => rfl, fun h => h5 (by simpa using h), fun h => h6 (by simpa using h), fun h => by have := h8 (by simpa using h); simpa using this, bnext hb hb', fun h => by
        obtain ⟨p, e1, e2, c, e3, e4, e5⟩ := h7 (by simpa using h)
        exact ⟨p, e1, e2, c, row_below e3 hb', e4, fun h => e5 (by simpa using h)⟩⟩)⟩
    · cases ho
      refine ⟨rfl, oper_load 29 (.tmp 1) rfl w.heap.size (cs x) _ rfl Try.underlying29 rfl (by kernel_rfl) (row_below ra hb) (hK _ _ ⟨v5, v13, v14, v15, v16, v17, el x, v19, rfl, fun h => h0 (by simpa using h), fun h => h1 (by simpa using h), fun h => h2 (by simpa using h), fun h => h3 (by simpa using h), fun h => h4 (by simpa using h), fun _ => rfl, fun h => h6 (by simpa using h), fun h => by have := h8 (by simpa using h); simpa using this, hb, fun h => by
        obtain ⟨p, e1, e2, c, e3, e4, e5⟩ := h7 (by simpa using h)
        exact ⟨p, e1, e2, c, e3, e4, fun h => e5 (by simpa using h)⟩⟩)⟩
    · cases ho
      have d4 := h4 (hdep { on := 4, ground := .data } (by simp) rfl)
      subst d4
      have d5 := h5 (hdep { on := 5, ground := .data } (by simp) rfl)
      subst d5
      refine ⟨rfl, oper_call 60 #[.tmp 17, .tmp 18] _ rfl #[el (tm (tm f f) s), el x] (by simp only [List.map_toArray, List.map_cons, List.map_nil]; rfl) (fun w => by kernel_rfl) (ctm (tm (tm f f) s) x hh hx _) (fun w' hb' => hK _ _ ⟨v5, v13, v14, v15, v16, (el (tm (tm f f) s)), (el x), el (tm (tm (tm f f) s) x), rfl, fun h => h0 (by simpa using h), fun h => h1 (by simpa using h), fun h => h2 (by simpa using h), fun h => h3 (by simpa using h), fun _ => rfl, fun _ => rfl, fun _ => rfl, fun h => by have := h8 (by simpa using h); simpa using this, bnext hb hb', fun h => by
        obtain ⟨p, e1, e2, c, e3, e4, e5⟩ := h7 (by simpa using h)
        exact ⟨p, e1, e2, c, row_below e3 hb', e4, fun h => e5 (by simpa using h)⟩⟩)⟩
    · cases ho
      refine ⟨rfl, oper_alloc 29 rfl (.pointer (some ⟨wr.heap.size, 0, none⟩)) (by simp [go_sem]; rfl) (hK _ _ ⟨.pointer (some ⟨wr.heap.size, 0, none⟩), v13, v14, v15, v16, v17, v18, v19, rfl, fun h => h0 (by simpa using h), fun h => h1 (by simpa using h), fun h => h2 (by simpa using h), fun h => h3 (by simpa using h), fun h => h4 (by simpa using h), fun h => h5 (by simpa using h), fun h => h6 (by simpa using h), fun _ => rfl, bnext hb (below1 _ _), fun _ => ⟨wr.heap.size, rfl, hb.size, _, row_new _ _, rfl, fun h => absurd (h8 (by simpa using h)) (by simp [hD])⟩⟩)⟩
    · cases ho
      have d7 := hdep { on := 7, ground := .data } (by simp) rfl
      have d6 := h6 (hdep { on := 6, ground := .data } (by simp) rfl)
      subst d6
      obtain ⟨p, rfl, e2, c, e3, e4, e5⟩ := h7 d7
      refine ⟨rfl, oper_store 29 (.tmp 5) (.tmp 19) rfl p (cs (tm (tm (tm f f) s) x)) c _ rfl rfl (by kernel_rfl) e3 e4 (cs_one _) (hK _ _ ⟨_, v13, v14, v15, v16, v17, v18, _, rfl, fun h => h0 (by simpa using h), fun h => h1 (by simpa using h), fun h => h2 (by simpa using h), fun h => h3 (by simpa using h), fun h => h4 (by simpa using h), fun h => h5 (by simpa using h), fun _ => rfl, fun _ => by simpa using d7, below_setRow hb e2 _, fun _ => ⟨p, rfl, e2, _, setRow_heap _ _ _ _ _ _ e3, rfl, fun _ => rfl⟩⟩)⟩
  · intro D a wr hinv hall
    obtain ⟨v5, v13, v14, v15, v16, v17, v18, v19, rfl, h0, h1, h2, h3, h4, h5, h6, h8, hb, h7⟩ := hinv
    have a0 := h0 (hall 0 (by simp)); have a1 := h1 (hall 1 (by simp)); have a2 := h2 (hall 2 (by simp)); have a3 := h3 (hall 3 (by simp)); have a4 := h4 (hall 4 (by simp)); have a5 := h5 (hall 5 (by simp)); have a6 := h6 (hall 6 (by simp))
    obtain ⟨p, a7, e2, c, e3, e4, e5⟩ := h7 (hall 7 (by simp))
    have e6 := e5 (hall 8 (by simp))
    subst a0 a1 a2 a3 a4 a5 a6 a7 e6
    clear h0 h1 h2 h3 h4 h5 h6 h7 h8 hall e4 e5 ctm
    replace ra := row_below ra hb
    replace rr := row_below rr hb
    have rr0 := rr
    replace hw := bnext hw hb
    clear rs rf
    go_wp2_with (refine wpList_load_agg rfl 29 (.tmp 1) rfl w.heap.size _ _ rfl Try.underlying29 rfl (by kernel_rfl) ra ?_)
    refine (ones_any x hx _).mono ?_
    rintro e u4 ⟨z, E, b, hz, hE, ez, rfl, hbz, hb4, rb⟩
    have rp := row_below e3 hb4
    replace rr := row_below rr hb4
    have lp := row_lt e3
    have lr := hw.size
    clear e3 ra
    go_wp2_with (refine wpList_load_agg rfl 29 (.tmp 5) rfl p _ _ rfl Try.underlying29 rfl (by kernel_rfl) rp ?_)
    refine (grow_any 5 b (by omega) z _ hz hl _ _ rb).mono ?_
    rintro e u5 ⟨y, hy, ey, rfl, hm, rb5⟩
    have hlt := row_lt rr
    have nb : w.heap.size + 1 ≠ b := by
      intro h
      have := row_lt rr0
      omega
    replace rr := row_mod rr hm nb
    go_wp2_with (refine wpList_store_row rfl 29 (.tmp 2) (.tmp 24) rfl (w.heap.size + 1) (cs y) _ _ rfl rfl (by kernel_rfl) rr rfl (cs_one y) rfl ?_)
    have hlast : Below w.heap.size w u5 := below_mod (bnext hw hb4) hm (Nat.le_trans hw.size hbz)
    obtain ⟨k, hk1, hk2⟩ := inv_pow hE.out ez.out es.out ef.out eg.out eh.out e11.out ey.out hx.2
    exact bodyPost_ret (v := el y) (results_agg rfl _ rfl Try.underlying29 rfl (by kernel_rfl) (setRow_heap _ _ _ _ _ _ rr)) rfl ⟨y, k, hy, hide1 hk1, hide1 hk2, rfl, below_setRow hlast (by omega) _⟩
end Go.Proofs.Ytgiemldmphbolaa

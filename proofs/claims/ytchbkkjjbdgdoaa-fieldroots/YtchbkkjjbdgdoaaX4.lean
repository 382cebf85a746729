/- Between walks by slots and walks by hand: opening and shutting a state; results of two parts. -/
import Derived.Test.YtchbkkjjbdgdoaaX3
namespace Go.Proofs.Ytchbkkjjbdgdoaa
open Go.RowKit
variable {P : Program} {W : World} {s : List SV} {m : List Blk} {β : Nat → Nat} {a : Act} {w : World} {Q : Exit → Act → World → Prop}

theorem seq_gen {x y : Code} (h : ∀ QQ : Exit → Act → World → Prop, Hid (∀ a w, y.wp P Q a w → QQ .normal a w) → x.wp P QQ a w) : (Code.seq x y).wp P Q a w := wp_seq (h _ (hide1 (fun _ _ h => h)))

def liveB (s : List SV) (k : Nat) : Bool := s.all fun v => match v with
  | .inl _ => true
  | .inr p => Nat.blt p.1 k
theorem live_of {k : Nat} (h : liveB s k = true) : ∀ t p, t < s.length → slot s t = .inr p → p.1 < k := by
  intro t p ht hs
  have := List.all_eq_true.1 h (slot s t) (by unfold slot; rw [List.getD_eq_getElem?_getD, List.getElem?_eq_getElem ht]; exact List.getElem_mem ht)
  rw [hs] at this
  exact Nat.le_of_ble_eq_true this

theorem list_set_same {α : Type} : ∀ (l : List α) (i : Nat) (x : α), l[i]? = some x → l.set i x = l
  | [], _, _, h => by simp at h
  | y :: l, 0, x, h => by simp at h; simp [h]
  | y :: l, i + 1, x, h => by simp at h; simp [list_set_same l i x (by simpa using h)]
/-- A block's content told otherwise; a slot's value told otherwise. -/
theorem St.setm (h : St W s m β a w) (b : Nat) {c c' : Array Value} {t : TypeId} {m' : List Blk} (e : c = c') (hb : m[b]? = some (c, t)) (hm : m.set b (c', t) = m') : St W s m' β a w := by
  subst e
  rw [list_set_same m b _ hb] at hm
  rw [← hm]; exact h
theorem St.sets (h : St W s m β a w) (i : Nat) {v v' : Value} {s' : List SV} (e : v = v') (hi : s[i]? = some (.inl v)) (hs : s.set i (.inl v') = s') : St W s' m β a w := by
  subst e
  rw [list_set_same s i _ hi] at hs
  rw [← hs]; exact h

/-- A state of three blocks. -/
def bet3 (p q r : Nat) : Nat → Nat
  | 0 => p
  | 1 => q
  | _ => r
theorem st3 {p q r : Nat} {c0 c1 c2 : Array Value} {t0 t1 t2 : TypeId} (ht : a = { tmps := (s.map (den (bet3 p q r))).toArray, defers := [] }) (hb : Below W.heap.size W w) (h0 : w.heap[p]? = some (.cells c0 t0 (0, 0))) (h1 : w.heap[q]? = some (.cells c1 t1 (0, 0))) (h2 : w.heap[r]? = some (.cells c2 t2 (0, 0)))
    (o0 : W.heap.size ≤ p) (o1 : W.heap.size ≤ q) (o2 : W.heap.size ≤ r) (n01 : p ≠ q) (n02 : p ≠ r) (n12 : q ≠ r) (hl : liveB s 3 = true) : St W s [(c0, t0), (c1, t1), (c2, t2)] (bet3 p q r) a w := by
  refine ⟨ht, hb, ?_, ?_, ?_, fun t p h1 h2 => live_of hl t p h1 h2⟩
  · intro b c hc
    match b, hc with
    | 0, hc => simp at hc; subst hc; exact h0
    | 1, hc => simp at hc; subst hc; exact h1
    | 2, hc => simp at hc; subst hc; exact h2
    | b + 3, hc => simp at hc
  · intro b hb
    match b, hb with
    | 0, _ => exact o0
    | 1, _ => exact o1
    | 2, _ => exact o2
    | b + 3, hb => simp at hb; omega
  · intro b c hb hc he
    simp at hb hc
    have hb' : b = 0 ∨ b = 1 ∨ b = 2 := by omega
    have hc' : c = 0 ∨ c = 1 ∨ c = 2 := by omega
    rcases hb' with rfl | rfl | rfl <;> rcases hc' with rfl | rfl | rfl <;> simp only [bet3] at he <;> first | rfl | exact absurd he n01 | exact absurd he.symm n01 | exact absurd he n02 | exact absurd he.symm n02 | exact absurd he n12 | exact absurd he.symm n12

theorem then_ret {K : Act → World → Prop} (h : Q .ret a w) : Exit.then K Q .ret a w := h
theorem with_st {c : Code} (h : St W s m β a w) (hk : ∀ a, St W s m β a w → c.wp P Q a w) : c.wp P Q a w := hk a h

/-- Leaving with what a block and a slot hold. -/
theorem sym_ret2 {fn : Func} {R : Ending → World → Prop} {t b t2 : Nat} {ty t0 : TypeId} {c : Array Value} {v : Value} {d : TypeDesc} (h : St W s m β a w) (hr : fn.results = #[.cell t ty, .tmp t2]) (ht : Nat.blt t s.length = true) (hs : slot s t = .inr (b, 0)) (hm : m[b]? = some (c, t0))
    (ht2 : Nat.blt t2 s.length = true) (hs2 : slot s t2 = .inl v)
    (hu : P.underlying ty = some d) (hd : (match d with | .struct _ | .array _ _ => true | _ => false) = true) (hi : (P.info? ty).map (·.size) = some c.size) (hR : Below W.heap.size W w → R (.returned (.tuple #[.agg c, v])) w) : bodyPost P fn R .ret a w := by
  have ht := Nat.le_of_ble_eq_true ht
  refine ⟨by rw [h.tm], .tuple #[.agg c, v], ?_, hR h.bel⟩
  have hrow := h.row b _ hm
  have htm : a.tmps[t]? = some (.pointer (some ⟨β b, 0, none⟩)) := by
    rw [h.tm]
    unfold slot at hs
    simp [show t < s.length from ht] at hs ⊢
    rw [hs]; rfl
  have hv := h.eval ht2 hs2
  have ht2 : t2 < s.length := Nat.le_of_ble_eq_true ht2
  have htm2 : a.tmps[t2]? = some v := by
    have hsz : t2 < a.tmps.size := by rw [h.tm]; simpa using ht2
    simp only [Act.eval, Array.getD, hsz] at hv
    simp at hv
    simp [hsz, hv]
  have hr2 := run_loadVar_row (P := P) w (β b) t0 ty c (0, 0) _ hrow hu hd hi
  simp only [results, hr]
  simp [htm, htm2, asAddr, hr2]
end Go.Proofs.Ytchbkkjjbdgdoaa

/- JSk, JSo, JR, JSe, JF, JSj, JSf, JSl, JSm, JSn, JSp: laid together. -/
import Derived.Deep.MidRow
import Derived.Maps.OwnSet
import Derived.Maps.AppendAt
import Derived.OwnWalk
import Derived.Orders
import Derived.Laws.CopyRow
import Derived.Deep.Cut
import Derived.Below
import Derived.Laws.BytesArg
import Derived.Test.YtdhmonlhlfkjbaaGreatDoorG1
namespace Go.Proofs.YtdhmonlhlfkjbaaGreatDoor
open Go.RowKit Go.Maps

theorem flat_get {z : Nat} : ∀ {cs : List (List Value)}, (∀ c ∈ cs, c.length = z) → ∀ (i j : Nat) (c : List Value), cs[i]? = some c → j < z → cs.flatten[i * z + j]? = c[j]?
  | [], _, i, j, c, h, _ => by simp at h
  | x :: r, hl, 0, j, c, h, hj => by
    simp at h
    subst h
    have := hl x (by simp)
    rw [Nat.zero_mul, Nat.zero_add, List.flatten_cons, List.getElem?_append_left (by omega)]
  | x :: r, hl, i + 1, j, c, h, hj => by
    have hx := hl x (by simp)
    have h' : r[i]? = some c := by simpa using h
    rw [List.flatten_cons, List.getElem?_append_right (by rw [hx, Nat.succ_mul]; omega), hx, show (i + 1) * z + j - z = i * z + j by rw [Nat.succ_mul]; omega]
    exact flat_get (fun c hc => hl c (by simp [hc])) i j c h' hj
theorem RwA.at {F : Nat → Prop} {w : World} {e : TypeId} {z : Nat} {v : Value} {cs : List (List Value)} (h : RwA F w e z v cs) {i : Nat} {c : List Value} (hi : cs[i]? = some c) : ∃ b o cap, v = .slice (some ⟨b, o, none⟩) cs.length cap ∧ F b ∧ b < w.heap.size ∧ w.rangeAt b (o + i * z) c := by
  obtain ⟨hl, ⟨a, cap, _, h2⟩ | ⟨b, o, cap, cur, fz, h1, hF, hb, hs, ht⟩⟩ := h
  · rw [h2] at hi; simp at hi
  · refine ⟨b, o, cap, h1, hF, (Array.getElem?_eq_some_iff.1 hb).1, fun j u hj => ?_⟩
    have hcz := hl c (List.mem_of_getElem? hi)
    have hjz : j < z := by have := (List.getElem?_eq_some_iff.1 hj).1; omega
    have h3 := flat_get hl i j c hi hjz
    rw [hj, ← ht] at h3
    have hil := (List.getElem?_eq_some_iff.1 hi).1
    have hle : (i + 1) * z ≤ cs.length * z := Nat.mul_le_mul_right z hil
    rw [Nat.succ_mul] at hle
    rw [List.getElem?_take, if_pos (by omega), List.getElem?_drop] at h3
    simp only [World.cell?, hb]
    rw [← h3, Array.getElem?_toList, Nat.add_assoc]
    rfl
def lastI : List (List UInt8) → Nat → List UInt8 → Option Nat
  | [], _, _ => none
  | x :: r, k, s => match lastI r (k + 1) s with
    | some j => some j
    | none => if x = s then some k else none
theorem lastI_snoc (x s : List UInt8) : ∀ (L : List (List UInt8)) (k : Nat), lastI (L ++ [x]) k s = if x = s then some (k + L.length) else lastI L k s
  | [], k => by simp [lastI]
  | y :: r, k => by
    rw [List.cons_append, lastI, lastI_snoc x s r (k + 1)]
    by_cases h : x = s
    · simp [h]; omega
    · simp only [h, if_false, lastI]
theorem lastI_none {s : List UInt8} : ∀ {L : List (List UInt8)} {k : Nat}, lastI L k s = none ↔ s ∉ L
  | [], k => by simp [lastI]
  | x :: r, k => by
    rw [lastI]
    cases h : lastI r (k + 1) s with
    | some j =>
      have : ¬ s ∉ r := fun hn => by rw [lastI_none.2 hn] at h; cases h
      simp at this
      simp [this]
    | none =>
      have := lastI_none.1 h
      by_cases e : x = s
      · simp [e]
      · simp [e, this]
        exact fun h => e h.symm
structure mI (D : DataW Unit) (L : List (List UInt8)) : Prop where
  is : ∀ (s : List UInt8) (z : DataW Unit), D.atKey (.string s) z = match lastI L 0 s with
    | some i => .lit (.int .i64 (i : Nat))
    | none => z
  le : Maps.size D ≤ L.length
  nd : Maps.size D = L.length ↔ L.Nodup
  mp : IsMap D
theorem mI.nil : mI (.map []) [] := ⟨fun s z => rfl, by simp [Maps.size], by simp [Maps.size], ⟨_, rfl⟩⟩
theorem len_ins {H : Type} (x : Lit × DataW H) : ∀ l : List (Lit × DataW H), (DataW.insert x l).length = l.length + 1
  | [] => rfl
  | y :: r => by
    unfold DataW.insert
    split
    · simp
    · simp [len_ins x r]
theorem mI.put {D : DataW Unit} {L : List (List UInt8)} (h : mI D L) (s : List UInt8) : mI (D.put (.string s) (.lit (.int .i64 (L.length : Nat)))) (L ++ [s]) := by
  obtain ⟨es, rfl⟩ := h.mp
  have hk : WideAt.IsKeyLit (.string s) := trivial
  refine ⟨fun t z => ?_, ?_, ?_, ⟨_, rfl⟩⟩
  · rw [lastI_snoc]
    by_cases e : s = t
    · subst e
      rw [atKey_put_same ⟨_, rfl⟩ hk, if_pos rfl, Nat.zero_add]
    · rw [atKey_put_other (fun e2 => e (by cases e2; rfl)), if_neg e]
      exact h.is t z
  · have := h.le
    simp only [DataW.put, Maps.size, len_ins, List.length_append, List.length_singleton] at this ⊢
    have := List.length_filter_le (fun p : Lit × DataW Unit => !p.1.sameKey (.string s)) es
    omega
  · have hle := h.le
    have hnd := h.nd
    have his := h.is s
    simp only [DataW.put, Maps.size, len_ins, List.length_append, List.length_singleton] at hle hnd ⊢
    rw [List.nodup_append]
    cases hq : lastI L 0 s with
    | none =>
      rw [hq] at his
      have hns := lastI_none.1 hq
      have hf : es.find? (fun p => p.1.sameKey (.string s)) = none := by
        cases hf : es.find? (fun p => p.1.sameKey (.string s)) with
        | none => rfl
        | some p =>
          have h1 := his .nil
          have h2 := his (.agg [])
          simp only [DataW.atKey, hf] at h1 h2
          rw [h1] at h2
          cases h2
      have hfl : es.filter (fun p => !p.1.sameKey (.string s)) = es := by
        rw [List.filter_eq_self]
        intro p hp
        have := List.find?_eq_none.1 hf p hp
        simpa using this
      rw [hfl]
      constructor
      · intro e
        refine ⟨hnd.1 (by omega), by simp, fun a ha b hb => ?_⟩
        rw [List.mem_singleton.1 hb]
        exact fun e => hns (e ▸ ha)
      · intro ⟨h1, _, _⟩
        have := hnd.2 h1
        omega
    | some i =>
      rw [hq] at his
      have hin : s ∈ L := by
        rcases Decidable.em (s ∈ L) with h | h
        · exact h
        · rw [lastI_none.2 h] at hq; cases hq
      constructor
      · intro e
        exfalso
        have hf : ∃ p ∈ es, p.1.sameKey (.string s) = true := by
          cases hf : es.find? (fun p => p.1.sameKey (.string s)) with
          | some p => exact ⟨p, List.mem_of_find?_eq_some hf, by simpa using List.find?_some hf⟩
          | none =>
            have h1 := his .nil
            simp only [DataW.atKey, hf] at h1
            cases h1
        obtain ⟨p, hp, hpk⟩ := hf
        have hlt : (es.filter (fun p => !p.1.sameKey (.string s))).length < es.length := by
          rcases Nat.lt_or_ge (es.filter (fun p => !p.1.sameKey (.string s))).length es.length with h | h
          · exact h
          · have := List.length_filter_le (fun p : Lit × DataW Unit => !p.1.sameKey (.string s)) es
            have he := List.length_filter_eq_length_iff.1 (show (es.filter (fun p => !p.1.sameKey (.string s))).length = es.length by omega) p hp
            rw [hpk] at he
            cases he
        omega
      · intro ⟨_, _, h3⟩
        exact absurd rfl (h3 s hin s (by simp))
theorem lawS : Keyed Tryz.prog 9 := string_keyed Tryz.underlying9
theorem keyS {s : List UInt8} (h : s.length ≤ 9223372036854775807) : keyOf Tryz.prog 9 (.string (st s)) = some (.string s) := Go.WideMaps.keyOf_string_mk Tryz.underlying9 (s := st s) (by rw [st_size]; unfold maxLen; omega)
theorem wfN {n : Nat} (h : n ≤ 1000000000) : (Lit.int .i64 (n : Nat)).wf = true := by
  simp only [Lit.wf, Bool.and_eq_true, decide_eq_true_eq]
  have e1 : IntKind.i64.min = -9223372036854775808 := rfl
  have e2 : IntKind.i64.max = 9223372036854775807 := rfl
  omega
theorem arr6 {c : List Value} (h : c.length = 6) : ∃ a b d e f g, c = [a, b, d, e, f, g] := by
  match c, h with
  | [a, b, d, e, f, g], _ => exact ⟨a, b, d, e, f, g, rfl⟩
structure NmA (F : Nat → Prop) (w : World) (v : Value) (cs : List (List Value)) (L : List (List UInt8)) : Prop where
  rw : RwA F w 69 6 v cs
  ln : L.length = cs.length
  nm : ∀ (j : Nat) (c : List Value) (s : List UInt8), cs[j]? = some c → L[j]? = some s → c.head? = some (.string (st s))
  sm : ∀ s ∈ L, s.length ≤ 9223372036854775807
  on : ∀ c ∈ cs, c.all (·.oneCell') = true
def AnM (w : World) (L : List (List UInt8)) (e : Ending) (w' : World) : Prop :=
  ∃ b D n, e = .returned (.tuple #[.map (some b), .bool (onc L)]) ∧ Below w.heap.size w w' ∧ w.heap.size ≤ b ∧ w'.ownsMap Tryz.prog 9 (plainElem Tryz.prog 3) b n D ∧ mI D L
structure Pi (w : World) (L : List (List UInt8)) (i b : Nat) (wr : World) : Prop where
  bw : Below w.heap.size w wr
  bb : w.heap.size ≤ b
  mp : ∃ D, wr.ownsMap Tryz.prog 9 (plainElem Tryz.prog 3) b i D ∧ mI D (L.take i)
theorem map_same {w w' : World} {P : Program} {k : TypeId} {R : Value → Option (DataW Unit × List MemPlace)} {b n : Nat} {D : DataW Unit} (h : w.ownsMap P k R b n D) (e : w'.heap[b]? = w.heap[b]?) : w'.ownsMap P k R b n D := by
  obtain ⟨es, clock, hb, r⟩ := h
  exact ⟨es, clock, e.trans hb, r⟩
set_option maxHeartbeats 8000000 in
set_option maxRecDepth 100000 in
theorem places_d {F : Nat → Prop} {w : World} {v : Value} {cs : List (List Value)} {L : List (List UInt8)} (h : NmA F w v cs L) (hn : cs.length ≤ 2000000) : Calls Tryz.prog 138 #[v] w (AnM w L) := by
  obtain ⟨va, vc, rfl⟩ : ∃ va vc, v = .slice va cs.length vc := by
    obtain ⟨_, ⟨a, cap, h1, h2⟩ | ⟨b, o, cap, cur, fz, h1, _⟩⟩ := h.rw
    · exact ⟨a, cap, by rw [h1, h2]; rfl⟩
    · exact ⟨_, cap, h1⟩
  have hi0 : Hid (Pi w L 0 w.heap.size (w.alloc (.map #[] 0))) := hide1 ⟨(Below.refl _ _).alloc (Nat.le_refl _) _, Nat.le_refl _, .map [], World.ownsMap_made _ _ _ _, mI.nil⟩
  obtain ⟨n, hne⟩ : ∃ n, Hid (n = cs.length) := ⟨_, hide1 rfl⟩
  rw [← hne.out] at hn ⊢
  replace h := hide1 h
  go_enter Tryz.func138, Tryz.ntmps138
  have hmk : (Instr.makeMap 179 (some (.int .i64 (n : Nat)))).run Tryz.prog w = .ok (.map (some w.heap.size)) (w.alloc (.map #[] 0)) := by
    simp [Instr.makeMap, go_sem]
  go_wp2_with fail
  generalize w.heap.size = bm at *
  go_loopw [12] (fun k wr => ∃ i : Nat, k = .int .i64 (i : Nat) ∧ i ≤ n ∧ Hid (Pi w L i bm wr)) (fun k _ => n - (intOf k).toNat)
  case atStart => exact ⟨0, rfl, by omega, hi0⟩
  case round =>
    obtain ⟨i, rfl, hin, hi⟩ := hrel
    by_cases hlt : i < n
    · have hcl : i < cs.length := by have := hne.out; omega
      have hLl : i < L.length := by have := h.out.ln; omega
      obtain ⟨c, hc⟩ : ∃ c, cs[i]? = some c := ⟨_, List.getElem?_eq_getElem hcl⟩
      obtain ⟨s, hs⟩ : ∃ s, L[i]? = some s := ⟨_, List.getElem?_eq_getElem hLl⟩
      obtain ⟨b, o, cap, hve, -, hbl, hr⟩ := h.out.rw.at hc
      have hva : va = some ⟨b, o, none⟩ := by cases hve; rfl
      subst hva
      have hnm := h.out.nm i c s hc hs
      have hsm := h.out.sm s (List.mem_of_getElem? hs)
      have hon := h.out.on c (List.mem_of_getElem? hc)
      obtain ⟨x0, x1, x2, x3, x4, x5, rfl⟩ := arr6 (h.out.rw.1 c (List.mem_of_getElem? hc))
      have hx0 : x0 = .string (st s) := by simpa using hnm
      subst hx0
      have hr2 : wr.rangeAt b (o + i * 6) [.string (st s), x1, x2, x3, x4, x5] := fun j u hj => by
        rw [World.cell?_of_block (w := w) (hi.out.bw.block b (by have := hi.out.bb; omega))]
        exact hr j u hj
      obtain ⟨D, hD, hmI⟩ := hi.out.mp
      have hbw := hide1 hi.out.bw
      have hbb := hide1 hi.out.bb
      have htk : L.take (i + 1) = L.take i ++ [s] := by
        rw [List.take_add_one, hs]; rfl
      have hml : (L.take i).length = i := by rw [List.length_take]; omega
      have hput := hmI.put s
      rw [hml, ← htk] at hput
      replace hput := hide1 hput
      clear hi hmI htk hml hve hr hnm hc hs
      have hbm := hD.lt
      have hr6 : (wr.alloc (.cells #[.string ⟨#[]⟩, .int .i64 0, .int .i64 0, .string ⟨#[]⟩, .slice none 0 0, .slice none 0 0] 69)).heap[wr.heap.size]? = some (.cells #[.string ⟨#[]⟩, .int .i64 0, .int .i64 0, .string ⟨#[]⟩, .slice none 0 0, .slice none 0 0] 69 (0, 0)) := by
        show (wr.heap.push _)[wr.heap.size]? = _
        rw [Array.getElem?_push, if_pos rfl]
      have h6 := setRow_heap (wr.alloc (.cells #[.string ⟨#[]⟩, .int .i64 0, .int .i64 0, .string ⟨#[]⟩, .slice none 0 0, .slice none 0 0] 69)) wr.heap.size _ #[.string (st s), x1, x2, x3, x4, x5] _ _ hr6
      have l6 : ((wr.alloc (.cells #[.string ⟨#[]⟩, .int .i64 0, .int .i64 0, .string ⟨#[]⟩, .slice none 0 0, .slice none 0 0] 69)).setRow wr.heap.size #[.string (st s), x1, x2, x3, x4, x5]).cell? ⟨wr.heap.size, 0, none⟩ = some (.string (st s)) := by simp only [World.cell?, h6]; rfl
      have hal : ∀ k, k < wr.heap.size → ((wr.alloc (.cells #[.string ⟨#[]⟩, .int .i64 0, .int .i64 0, .string ⟨#[]⟩, .slice none 0 0, .slice none 0 0] 69)).setRow wr.heap.size #[.string (st s), x1, x2, x3, x4, x5]).heap[k]? = wr.heap[k]? := fun k hk => (setRow_other _ _ k _ (by omega)).trans (by
        show (wr.heap.push _)[k]? = _
        rw [Array.getElem?_push, if_neg (by omega)])
      have hown := map_same hD (hal bm hbm)
      have hb6 : Hid (Below w.heap.size w ((wr.alloc (.cells #[.string ⟨#[]⟩, .int .i64 0, .int .i64 0, .string ⟨#[]⟩, .slice none 0 0, .slice none 0 0] 69)).setRow wr.heap.size #[.string (st s), x1, x2, x3, x4, x5])) := hide1 (by
        have b := hbw.out
        exact ⟨b.os, b.tape, b.output, by have := b.size; simp [World.setRow]; omega, fun k hk => (hal k (Nat.lt_of_lt_of_le hk b.size)).trans (b.block k hk)⟩)
      have hpl : plainElem (H := Unit) Tryz.prog 3 (.int .i64 (i : Nat)) = some (.lit (.int .i64 (i : Nat)), []) := plainElem_int Tryz.underlying3 (wfN (by omega))
      replace h6 := hide1 h6
      replace hon := hide1 hon
      clear hal hD hbw
      go_wp2_with (first | refine wpList_load_mid rfl 69 (.tmp 15) rfl b (o + i * 6) rfl [.string (st s), x1, x2, x3, x4, x5] _ hr2 Tryz.underlying69 rfl (by kernel_rfl) ?_ | refine wpList_store_row rfl 69 (.tmp 6) (.tmp 16) rfl wr.heap.size #[.string (st s), x1, x2, x3, x4, x5] rfl rfl 69 _ hr6 (by kernel_rfl) rfl (by simpa [Value.oneCell'] using hon.out) ?_ | (at_mapUpdate; refine wpList_mapUpdate_own _ rfl _ _ _ 179 rfl 9 3 lawS Tryz.underlying179 _ bm i D rfl hown (by unfold maxLen; omega) _ _ (.string s) rfl rfl (keyS hsm) (.lit (.int .i64 (i : Nat))) [] hpl ?_; intro w7 hown7 hgr7))
      have hsz := hbb.out
      go_roundw
      case rel =>
        refine ⟨i + 1, rfl, by omega, hide1 ⟨?_, hbb.out, _, hown7, hput.out⟩⟩
        have b := hb6.out
        exact ⟨hgr7.os.trans b.os, hgr7.tape.trans b.tape, hgr7.output.trans b.output, Nat.le_trans b.size hgr7.size, fun k hk => (hgr7.block k (Nat.lt_of_lt_of_le hk b.size) (fun e => by
          have : k = bm := by simpa using e
          omega)).trans (b.block k hk)⟩
      case measure => simp [intOf]; omega
    · have hi2 : i = n := by omega
      subst hi2
      obtain ⟨D, hD, hmI⟩ := hi.out.mp
      have htk : L.take i = L := List.take_of_length_le (by have := h.out.ln; have := hne.out; omega)
      rw [htk] at hmI
      have hll : L.length = i := by have := h.out.ln; have := hne.out; omega
      have hlen := hD.len Tryz.underlying179 3
      have heq : (((Maps.size D : Nat) : Int) == (i : Int)) = onc L := by
        unfold onc
        rw [Bool.eq_iff_iff]
        simp only [beq_iff_eq, decide_eq_true_eq]
        rw [← hmI.nd, hll]
        omega
      have ha : Hid (AnM w L (.returned (.tuple #[.map (some bm), .bool (((Maps.size D : Nat) : Int) == (i : Int))])) wr) := hide1 (by
        rw [heq]
        exact ⟨bm, D, i, rfl, hi.out.bw, hi.out.bb, hD, hmI⟩)
      clear hmI hD hi htk hll heq hi0 hmk
      generalize Maps.size D = sz at *
      go_wp2
      go_ret2
      exact ha.out
end Go.Proofs.YtdhmonlhlfkjbaaGreatDoor

namespace Go.Proofs.YtdhmonlhlfkjbaaGreatDoor
open Go.RowKit
theorem wpList_apV {w : World} {ops : Array Oper} {rest : List Oper} {o : Oper} {a : Act} {Q : Exit → Act → World → Prop} (hgd : o.guard = none) (s x : Operand) (ho : o.op = .call { callee := .builtin .append, args := #[s, x], argTypes := #[52, 52] })
    (B : Nat) (v : Value) (n : Nat) (xs : List Value) (hs : a.eval s = v) (hown : w.ownsRow B 55 5 v n xs) (ad : Addr) (m c : Nat) (ys : List Value) (hx : a.eval x = .slice (some ad) m c) (hy : ys.length = m * 5) (hnews : ∀ j u, ys[j]? = some u → w.cell? (ad.add j) = some u) (h1 : ∀ u ∈ ys, u.oneCell' = true) (hn : n + m ≤ 4000000) (hB : B ≤ w.heap.size)
    (h : ∀ v' w', w'.ownsRow B 55 5 v' (n + m) (xs ++ ys) → w.grownBy w' v.ownBlock → wpList Tryz.prog ops Q rest (a.put o.dst v') w') : wpList Tryz.prog ops Q (o :: rest) a w := by
  refine wpList_plain hgd fun K hK => ?_
  obtain ⟨i0, hi, hz0, hz1, hz2⟩ := info_parts (show (Tryz.prog.info? 55).map (fun i => (i.zero, i.size, i.bytes)) = some (some (.agg #[.int .i64 0, .int .i64 0, .string ⟨#[]⟩, .slice none 0 0, .slice none 0 0]), 5, 80) by kernel_rfl)
  obtain ⟨v', w', hr, h4, h5, h5b, h6⟩ := run_append_own_at (P := Tryz.prog) w B 52 o.type 55 i0 _ 5 80 Tryz.underlying52 hi hz0 hz1 hz2 rfl (by decide) v n xs hown ad m c ys hy hnews h1 (by unfold maxLen; omega) (by omega) hB
  unfold Oper.wp execOp
  simp only [ho, resolve, invoke, builtin, Sem.run_bind, Sem.run_pure, Result.andThen_ok, List.map_toArray, List.map_cons, List.map_nil, hs, hx, hr]
  exact hK _ _ (h v' w' h4 h5)
theorem bs_0V (w : World) : (Instr.buildSlice 52 0 #[]).run Tryz.prog w = .ok (.slice (some ⟨w.heap.size, 0, none⟩) 0 0) (w.alloc (.cells #[] 55)) := by kernel_rfl
theorem RwA.sliceV {F : Nat → Prop} {w : World} {v : Value} {cs : List (List Value)} (h : RwA F w 55 5 v cs) : ∃ a cap, v = .slice a cs.length cap ∧ (∀ ad, a = some ad → ∀ j u, cs.flatten[j]? = some u → w.cell? (ad.add j) = some u) ∧ (a = none → cs = []) := by
  obtain ⟨hl, ⟨a, cap, h1, h2⟩ | ⟨b, o, cap, cur, fz, h1, hF, hb, hs, ht⟩⟩ := h
  · refine ⟨a, cap, by rw [h1, h2]; rfl, fun ad _ j u hj => ?_, fun _ => h2⟩
    rw [h2] at hj; simp at hj
  · refine ⟨_, cap, h1, fun ad e j u hj => ?_, fun e => nomatch e⟩
    cases e
    rw [Addr.add_mid]
    rw [← ht, List.getElem?_take] at hj
    split at hj
    · rw [List.getElem?_drop] at hj
      simp only [World.cell?, hb]
      rw [← hj, Array.getElem?_toList]
      rfl
    · cases hj
set_option maxHeartbeats 4000000 in
set_option maxRecDepth 100000 in
theorem clone_V {F : Nat → Prop} {w : World} {v : Value} {cs : List (List Value)} (h : RwA F w 55 5 v cs) (hon : ∀ c ∈ cs, c.all (·.oneCell') = true) (hn : cs.length ≤ 2000000) :
    Calls Tryz.prog 92 #[v] w fun e w' => ∃ v', e = .returned v' ∧ Below w.heap.size w w' ∧ w'.ownsRow w.heap.size 55 5 v' cs.length cs.flatten := by
  have hfl : cs.flatten.length = cs.length * 5 := by
    rw [List.length_flatten, List.map_congr_left (g := fun _ => 5) (fun c hc => h.1 c hc), List.map_const', List.sum_replicate_nat]
  have hone : ∀ u ∈ cs.flatten, u.oneCell' = true := fun u hu => by
    obtain ⟨c, hc, huc⟩ := List.mem_flatten.1 hu
    exact List.all_eq_true.1 (hon c hc) u huc
  obtain ⟨a, cap, rfl, hc, hnil⟩ := h.sliceV
  cases a with
  | none =>
    have := hnil rfl
    subst this
    clear hc hnil h
    have hq : (binOp .eql 52 (.slice none 0 cap) (.slice none 0 0)).run Tryz.prog w = .ok (.bool true) w := by kernel_rfl
    go_enter Tryz.func92, Tryz.ntmps92
    go_wp2
    go_ret
    exact ⟨_, rfl, Below.refl _ _, rfl, .inl ⟨rfl, rfl⟩⟩
  | some ad =>
    have hb0 : Below w.heap.size w (w.alloc (.cells #[] 55)) := (Below.refl _ _).alloc (Nat.le_refl _) _
    have hw0 : (w.alloc (.cells #[] 55)).ownsRow w.heap.size 55 5 (.slice (some ⟨w.heap.size, 0, none⟩) 0 0) 0 [] := by
      refine ⟨rfl, .inr ⟨w.heap.size, 0, #[], rfl, Nat.le_refl _, ?_, Nat.le_refl _, by unfold maxLen; omega, rfl, rfl⟩⟩
      show (w.heap.push _)[w.heap.size]? = _
      rw [Array.getElem?_push, if_pos rfl]
    have hnw : ∀ j u, cs.flatten[j]? = some u → (w.alloc (.cells #[] 55)).cell? (ad.add j) = some u := fun j u hj => by
      have h1 := hc ad rfl j u hj
      have hbl : (ad.add j).block < w.heap.size := by
        rcases Nat.lt_or_ge (ad.add j).block w.heap.size with h' | h'
        · exact h'
        · simp [World.cell?, Array.getElem?_eq_none h'] at h1
      exact (hb0.cell hbl).trans h1
    have hbs := bs_0V w
    generalize cs.length = n at *
    generalize cs.flatten = ys at *
    clear hc hnil h hon
    have hq : (binOp .eql 52 (.slice (some ad) n cap) (.slice none 0 0)).run Tryz.prog w = .ok (.bool false) w := by kernel_rfl
    go_enter Tryz.func92, Tryz.ntmps92
    go_wp2_with (at_builtin; refine wpList_apV rfl (.tmp 5) (.tmp 6) rfl w.heap.size _ 0 [] rfl hw0 ad n cap ys rfl hfl hnw hone (by omega) (by simp) ?_; intro v' w' hrow hgr)
    go_ret
    rw [Nat.zero_add, List.nil_append] at hrow
    refine ⟨v', rfl, ⟨hgr.os, hgr.tape, hgr.output, Nat.le_trans hb0.size hgr.size, fun k hk => (hgr.block k (Nat.lt_of_lt_of_le hk hb0.size) (fun e => ?_)).trans (hb0.block k hk)⟩, hrow⟩
    have e2 : some k = some w.heap.size := e
    have : k = w.heap.size := by simpa using e2
    omega
theorem wpList_apP {w : World} {ops : Array Oper} {rest : List Oper} {o : Oper} {a : Act} {Q : Exit → Act → World → Prop} (hgd : o.guard = none) (s x : Operand) (ho : o.op = .call { callee := .builtin .append, args := #[s, x], argTypes := #[53, 53] })
    (B : Nat) (v : Value) (n : Nat) (xs : List Value) (hs : a.eval s = v) (hown : w.ownsRow B 69 6 v n xs) (ad : Addr) (m c : Nat) (ys : List Value) (hx : a.eval x = .slice (some ad) m c) (hy : ys.length = m * 6) (hnews : ∀ j u, ys[j]? = some u → w.cell? (ad.add j) = some u) (h1 : ∀ u ∈ ys, u.oneCell' = true) (hn : n + m ≤ 4000000) (hB : B ≤ w.heap.size)
    (h : ∀ v' w', w'.ownsRow B 69 6 v' (n + m) (xs ++ ys) → w.grownBy w' v.ownBlock → wpList Tryz.prog ops Q rest (a.put o.dst v') w') : wpList Tryz.prog ops Q (o :: rest) a w := by
  refine wpList_plain hgd fun K hK => ?_
  obtain ⟨i0, hi, hz0, hz1, hz2⟩ := info_parts (show (Tryz.prog.info? 69).map (fun i => (i.zero, i.size, i.bytes)) = some (some (.agg #[.string ⟨#[]⟩, .int .i64 0, .int .i64 0, .string ⟨#[]⟩, .slice none 0 0, .slice none 0 0]), 6, 96) by kernel_rfl)
  obtain ⟨v', w', hr, h4, h5, h5b, h6⟩ := run_append_own_at (P := Tryz.prog) w B 53 o.type 69 i0 _ 6 96 Tryz.underlying53 hi hz0 hz1 hz2 rfl (by decide) v n xs hown ad m c ys hy hnews h1 (by unfold maxLen; omega) (by omega) hB
  unfold Oper.wp execOp
  simp only [ho, resolve, invoke, builtin, Sem.run_bind, Sem.run_pure, Result.andThen_ok, List.map_toArray, List.map_cons, List.map_nil, hs, hx, hr]
  exact hK _ _ (h v' w' h4 h5)
theorem bs_0P (w : World) : (Instr.buildSlice 53 0 #[]).run Tryz.prog w = .ok (.slice (some ⟨w.heap.size, 0, none⟩) 0 0) (w.alloc (.cells #[] 69)) := by kernel_rfl
theorem RwA.sliceP {F : Nat → Prop} {w : World} {v : Value} {cs : List (List Value)} (h : RwA F w 69 6 v cs) : ∃ a cap, v = .slice a cs.length cap ∧ (∀ ad, a = some ad → ∀ j u, cs.flatten[j]? = some u → w.cell? (ad.add j) = some u) ∧ (a = none → cs = []) := by
  obtain ⟨hl, ⟨a, cap, h1, h2⟩ | ⟨b, o, cap, cur, fz, h1, hF, hb, hs, ht⟩⟩ := h
  · refine ⟨a, cap, by rw [h1, h2]; rfl, fun ad _ j u hj => ?_, fun _ => h2⟩
    rw [h2] at hj; simp at hj
  · refine ⟨_, cap, h1, fun ad e j u hj => ?_, fun e => nomatch e⟩
    cases e
    rw [Addr.add_mid]
    rw [← ht, List.getElem?_take] at hj
    split at hj
    · rw [List.getElem?_drop] at hj
      simp only [World.cell?, hb]
      rw [← hj, Array.getElem?_toList]
      rfl
    · cases hj
set_option maxHeartbeats 4000000 in
set_option maxRecDepth 100000 in
theorem clone_P {F : Nat → Prop} {w : World} {v : Value} {cs : List (List Value)} (h : RwA F w 69 6 v cs) (hon : ∀ c ∈ cs, c.all (·.oneCell') = true) (hn : cs.length ≤ 2000000) :
    Calls Tryz.prog 93 #[v] w fun e w' => ∃ v', e = .returned v' ∧ Below w.heap.size w w' ∧ w'.ownsRow w.heap.size 69 6 v' cs.length cs.flatten := by
  have hfl : cs.flatten.length = cs.length * 6 := by
    rw [List.length_flatten, List.map_congr_left (g := fun _ => 6) (fun c hc => h.1 c hc), List.map_const', List.sum_replicate_nat]
  have hone : ∀ u ∈ cs.flatten, u.oneCell' = true := fun u hu => by
    obtain ⟨c, hc, huc⟩ := List.mem_flatten.1 hu
    exact List.all_eq_true.1 (hon c hc) u huc
  obtain ⟨a, cap, rfl, hc, hnil⟩ := h.sliceP
  cases a with
  | none =>
    have := hnil rfl
    subst this
    clear hc hnil h
    have hq : (binOp .eql 53 (.slice none 0 cap) (.slice none 0 0)).run Tryz.prog w = .ok (.bool true) w := by kernel_rfl
    go_enter Tryz.func93, Tryz.ntmps93
    go_wp2
    go_ret
    exact ⟨_, rfl, Below.refl _ _, rfl, .inl ⟨rfl, rfl⟩⟩
  | some ad =>
    have hb0 : Below w.heap.size w (w.alloc (.cells #[] 69)) := (Below.refl _ _).alloc (Nat.le_refl _) _
    have hw0 : (w.alloc (.cells #[] 69)).ownsRow w.heap.size 69 6 (.slice (some ⟨w.heap.size, 0, none⟩) 0 0) 0 [] := by
      refine ⟨rfl, .inr ⟨w.heap.size, 0, #[], rfl, Nat.le_refl _, ?_, Nat.le_refl _, by unfold maxLen; omega, rfl, rfl⟩⟩
      show (w.heap.push _)[w.heap.size]? = _
      rw [Array.getElem?_push, if_pos rfl]
    have hnw : ∀ j u, cs.flatten[j]? = some u → (w.alloc (.cells #[] 69)).cell? (ad.add j) = some u := fun j u hj => by
      have h1 := hc ad rfl j u hj
      have hbl : (ad.add j).block < w.heap.size := by
        rcases Nat.lt_or_ge (ad.add j).block w.heap.size with h' | h'
        · exact h'
        · simp [World.cell?, Array.getElem?_eq_none h'] at h1
      exact (hb0.cell hbl).trans h1
    have hbs := bs_0P w
    generalize cs.length = n at *
    generalize cs.flatten = ys at *
    clear hc hnil h hon
    have hq : (binOp .eql 53 (.slice (some ad) n cap) (.slice none 0 0)).run Tryz.prog w = .ok (.bool false) w := by kernel_rfl
    go_enter Tryz.func93, Tryz.ntmps93
    go_wp2_with (at_builtin; refine wpList_apP rfl (.tmp 5) (.tmp 6) rfl w.heap.size _ 0 [] rfl hw0 ad n cap ys rfl hfl hnw hone (by omega) (by simp) ?_; intro v' w' hrow hgr)
    go_ret
    rw [Nat.zero_add, List.nil_append] at hrow
    refine ⟨v', rfl, ⟨hgr.os, hgr.tape, hgr.output, Nat.le_trans hb0.size hgr.size, fun k hk => (hgr.block k (Nat.lt_of_lt_of_le hk hb0.size) (fun e => ?_)).trans (hb0.block k hk)⟩, hrow⟩
    have e2 : some k = some w.heap.size := e
    have : k = w.heap.size := by simpa using e2
    omega
section
variable {P : Program} {ops : Array Oper} {Q : Exit → Act → World → Prop}
theorem left_set : ∀ (l : List Bool) (j : Nat), l[j]? = some false → ((l.set j true).filter (!·)).length + 1 = (l.filter (!·)).length
  | [], j, h => by simp at h
  | b :: l, 0, h => by
    simp only [List.getElem?_cons_zero, Option.some.injEq] at h
    subst h
    simp
  | b :: l, j + 1, h => by
    simp only [List.getElem?_cons_succ] at h
    have := left_set l j h
    cases b <;> simp at this ⊢ <;> omega

theorem all_listed {l : Array Bool} (hsz : l.size = ops.size) (hacyc : ∀ i o, ops[i]? = some o → ∀ e ∈ o.after, Region.binds .any e = true → e.on < i) (hr : Region.ready .any ops l = []) : ∀ i, i < ops.size → l.getD i false = true := by
  intro i
  induction i using Nat.strongRecOn with
  | _ i ih =>
    intro hi
    by_cases h : l.getD i false = true
    · exact h
    · exfalso
      have hm : i ∈ Region.ready .any ops l := by
        rw [mem_ready]
        refine ⟨?_, ops[i], by simp [hi], fun e he hb => ?_⟩
        · have hl : i < l.size := by omega
          simp [Array.getD, hl] at h ⊢
          exact h
        · have := hacyc i ops[i] (by simp [hi]) e he hb
          exact ih e.on this (by omega)
      rw [hr] at hm
      simp at hm

def acycB (ops : Array Oper) : Bool := (List.range ops.size).all fun i => match ops[i]? with
  | none => true
  | some o => o.after.all fun e => !Region.binds .any e || decide (e.on < i)
theorem acyc_of (h : acycB ops = true) : ∀ i o, ops[i]? = some o → ∀ e ∈ o.after, Region.binds .any e = true → e.on < i := by
  intro i o ho e he hb
  have hi : i < ops.size := (Array.getElem?_eq_some_iff.1 ho).1
  have h1 := List.all_eq_true.1 h i (by simp [hi])
  simp only [ho] at h1
  have h2 := Array.all_eq_true_iff_forall_mem.1 h1 e he
  simpa [hb] using h2
def add1 (D : Nat → Bool) (i : Nat) : Nat → Bool := fun j => if j = i then true else D j

theorem wpAny_sym (hacyc : ∀ i o, ops[i]? = some o → ∀ e ∈ o.after, Region.binds .any e = true → e.on < i) (I : (Nat → Bool) → Act → World → Prop)
    (hstep : ∀ D a w, I D a w → ∀ i o, ops[i]? = some o → D i = false → (∀ e ∈ o.after, Region.binds .any e = true → D e.on = true) → ∀ K : Act → World → Prop,
      (∀ a' w', I (add1 D i) a' w' → K a' w') → (Region.wanted o (yielded ops a.tmps) = true ∧ o.wp P a w K Q) ∨ (Region.wanted o (yielded ops a.tmps) = false ∧ K (a.put o.dst undef) w))
    (hend : ∀ D a w, I D a w → (∀ i, i < ops.size → D i = true) → Q .normal a w) :
    ∀ (fuel : Nat) (l : Array Bool) (a : Act) (w : World), l.size = ops.size → (l.toList.filter (!·)).length ≤ fuel → I (fun i => l.getD i false) a w → wpAny P .any ops Q fuel l a w
  | 0, l, a, w, hsz, hf, hi => by
    have hr : Region.ready .any ops l = [] := by
      rw [List.eq_nil_iff_forall_not_mem]
      intro j hj
      obtain ⟨h1, o, ho, _⟩ := mem_ready.1 hj
      have hjl : j < l.size := by rw [hsz]; exact (Array.getElem?_eq_some_iff.1 ho).1
      have h2 : l.toList[j]? = some false := by simp [Array.getD, hjl] at h1 ⊢; exact h1
      have := left_set l.toList j h2
      omega
    exact ⟨hr, hend _ _ _ hi (all_listed hsz hacyc hr)⟩
  | fuel + 1, l, a, w, hsz, hf, hi => by
    refine ⟨fun hr => hend _ _ _ hi (all_listed hsz hacyc hr), fun j hj => ?_⟩
    obtain ⟨h1, o, ho, hdep⟩ := mem_ready.1 hj
    have hjl : j < l.size := by rw [hsz]; exact (Array.getElem?_eq_some_iff.1 ho).1
    have h2 : l.toList[j]? = some false := by simp [Array.getD, hjl] at h1 ⊢; exact h1
    have h3 : l.getD j false = false := by simp [Array.getD, hjl] at h1 ⊢; exact h1
    have h4 := left_set l.toList j h2
    have hk := hstep _ a w hi j o ho h3 hdep (wpAny P .any ops Q fuel (l.setIfInBounds j true)) (fun a' w' h => by
      refine wpAny_sym hacyc I hstep hend fuel (l.setIfInBounds j true) a' w' (by simp [hsz]) (by simp; omega) ?_
      have e : (fun i => (l.setIfInBounds j true).getD i false) = add1 (fun i => l.getD i false) j := by
        funext i
        unfold add1
        by_cases h : i = j
        · subst h; simp [Array.getD, hjl]
        · have h' : ¬ j = i := fun x => h x.symm
          by_cases hil : i < l.size
          · simp [Array.getD, hil, h, h']
          · simp [Array.getD, hil, h]
      rw [e]; exact h)
    unfold wpOp
    simp only [ho]
    rcases hk with ⟨hw, hk⟩ | ⟨hw, hk⟩
    · simp only [hw, if_true]; exact Or.inl hk
    · simp only [hw, Bool.false_eq_true, if_false]; exact hk

theorem add1_ne {D : Nat → Bool} {i j : Nat} (h : j ≠ i) : add1 D i j = D j := by unfold add1; rw [if_neg h]
theorem add1_eq {D : Nat → Bool} {i : Nat} : add1 D i i = true := by unfold add1; rw [if_pos rfl]
theorem putg_ {a : Act} {d t : Nat} {v : Value} (hd : d < a.tmps.size) : (a.put (some d) v).tmps.getD t undef = if t = d then v else a.tmps.getD t undef := by
  unfold Act.put
  simp only [Array.getD_eq_getD_getElem?, Array.getElem?_setIfInBounds]
  by_cases e : d = t
  · subst e; simp [hd]
  · rw [if_neg e, if_neg (fun h => e h.symm)]
theorem wp_val {o : Oper} {a : Act} {w w' : World} {K : Act → World → Prop} {v : Value} (h : (execOp a.eval o).run P w = .ok (.value v) w') (hk : K (a.put o.dst v) w') : o.wp P a w K Q := by
  unfold Oper.wp; rw [h]; exact hk
theorem put_of {a : Act} {d t : Nat} {v : Value} (hd : d < a.tmps.size) (h : t ≠ d) : (a.put (some d) v).tmps.getD t undef = a.tmps.getD t undef := by rw [putg_ hd, if_neg h]
theorem put_at {a : Act} {d : Nat} {v : Value} (hd : d < a.tmps.size) : (a.put (some d) v).tmps.getD d undef = v := by rw [putg_ hd, if_pos rfl]
theorem put_sz (a : Act) (dst : Option Tmp) (v : Value) : (a.put dst v).tmps.size = a.tmps.size := by cases dst <;> simp [Act.put]
theorem put_df (a : Act) (dst : Option Tmp) (v : Value) : (a.put dst v).defers = a.defers := by cases dst <;> rfl
theorem wp_inv {l : List Oper} {id : Nat} (a0 : Act) (w0 : World) (hm : P.follows .mixedOrders = true) (hac : acycB l.toArray = true) (hg : l.all (fun o => o.guard.isNone) = true) (I : (Nat → Bool) → Act → World → Prop) (h0 : I (fun _ => false) a0 w0.drew)
    (hstep : ∀ D a w, I D a w → ∀ i o, l[i]? = some o → D i = false → (∀ e ∈ o.after, Region.binds .any e = true → D e.on = true) → ∀ K : Act → World → Prop, (∀ a' w', I (add1 D i) a' w' → K a' w') → o.wp P a w K Q)
    (hend : ∀ D a w, I D a w → (∀ i, i < l.length → D i = true) → Q .normal a w) : (Code.region id l.toArray true).wp P Q a0 w0 := by
  have hacyc := acyc_of (ops := l.toArray) hac
  refine wp_region_any hm (wpAny_sym hacyc I (fun D a w hI i o ho hD hdep K hK => .inl ⟨?_, hstep D a w hI i o (by simpa using ho) hD hdep K hK⟩) (fun D a w hI hall => hend D a w hI (fun i hi => hall i (by simpa using hi))) _ _ _ _ (by simp) ?_ ?_)
  · have : o.guard = none := by
      have := List.all_eq_true.1 hg o (List.mem_of_getElem? (by simpa using ho : l[i]? = some o))
      simpa using this
    unfold Region.wanted
    rw [this]
  · exact Nat.le_trans (List.length_filter_le _ _) (by simp)
  · have e : (fun i => (Array.replicate l.toArray.size false).getD i false) = fun _ => false := by
      funext i
      by_cases h : i < l.toArray.size <;> simp [Array.getD]
    exact e ▸ h0
end
theorem ld_sV {w : World} {b o : Nat} {v : Value} (h1 : w.cell? ⟨b, o, none⟩ = some v) : (Instr.loadAt 52 (.pointer (some ⟨b, o, none⟩))).run Tryz.prog w = .ok v w := by
  simp [Instr.loadAt, Instr.sureAddr, go_sem, h1]
theorem ix_sV {g K cap k : Nat} (hk : k < K) (w : World) : (Instr.indexAt 52 (.slice (some ⟨g, 0, none⟩) K cap) (.int .i64 (k : Nat))).run Tryz.prog w = .ok (.pointer (some ⟨g, k * 5, none⟩)) w := by
  simp [Instr.indexAt, go_sem, hk]
  try omega
theorem bs_zV (w : World) : (Instr.buildSlice 52 1 #[(0, .agg #[.int .i64 0, .int .i64 0, .string ⟨#[]⟩, .slice none 0 0, .slice none 0 0])]).run Tryz.prog w = .ok (.slice (some ⟨w.heap.size, 0, none⟩) 1 1) (w.alloc (.cells #[.int .i64 0, .int .i64 0, .string ⟨#[]⟩, .slice none 0 0, .slice none 0 0] 55)) := by kernel_rfl
theorem inf_V : (Tryz.prog.info? 55).map (fun i => (i.zero, i.size, i.bytes)) = some (some (.agg #[.int .i64 0, .int .i64 0, .string ⟨#[]⟩, .slice none 0 0, .slice none 0 0]), 5, 80) := by kernel_rfl
structure ApV (B n qb : Nat) (v0 : Value) (xs0 : List Value) (c : Array Value) (a0 : Act) (w1 : World) (D : Nat → Bool) (a : Act) (w : World) : Prop where
  df : a.defers = a0.defers
  sz : a.tmps.size = a0.tmps.size
  ot : ∀ t, (t < 10 ∨ 15 < t) → a.tmps.getD t undef = a0.tmps.getD t undef
  os : w.os = w1.os
  tp : w.tape = w1.tape
  ou : w.output = w1.output
  hs : w1.heap.size ≤ w.heap.size
  fr : ∀ k, k < w1.heap.size → k ≠ qb → some k ≠ v0.ownBlock → w.heap[k]? = w1.heap[k]?
  d4 : D 4 = true → D 0 = true ∧ D 1 = true ∧ D 2 = true ∧ D 3 = true
  d5 : D 5 = true → D 4 = true
  d6 : D 6 = true → D 5 = true
  d7 : D 7 = true → D 4 = true
  s0 : D 0 = true → a.tmps.getD 10 undef = v0
  s1 : D 1 = true → a.tmps.getD 11 undef = .agg c
  s2 : D 2 = true → a.tmps.getD 12 undef = .int .i64 (n : Nat)
  s3 : D 3 = true → D 4 = false → ∃ g1, a.tmps.getD 13 undef = .slice (some ⟨g1, 0, none⟩) 1 1 ∧ w1.heap.size ≤ g1 ∧ w.heap[g1]? = some (.cells #[.int .i64 0, .int .i64 0, .string ⟨#[]⟩, .slice none 0 0, .slice none 0 0] 55 (0, 0))
  b4 : D 4 = false → ∀ k, k < w1.heap.size → w.heap[k]? = w1.heap[k]?
  s4 : D 4 = true → ∃ gb cap, a.tmps.getD 14 undef = .slice (some ⟨gb, 0, none⟩) (n + 1) cap ∧ (some gb = v0.ownBlock ∨ w1.heap.size ≤ gb) ∧ w.ownsRow B 55 5 (.slice (some ⟨gb, 0, none⟩) (n + 1) cap) (n + 1) (xs0 ++ (if D 6 = true then c.toList else (#[.int .i64 0, .int .i64 0, .string ⟨#[]⟩, .slice none 0 0, .slice none 0 0] : Array Value).toList)) ∧ (D 5 = true → a.tmps.getD 15 undef = .pointer (some ⟨gb, n * 5, none⟩)) ∧ w.heap[qb]? = some (.cells #[if D 7 = true then .slice (some ⟨gb, 0, none⟩) (n + 1) cap else v0] 52 (0, 0))
section
variable {B n qb q3 : Nat} {v0 : Value} {xs0 : List Value} {c : Array Value} {a0 : Act} {w1 : World} {D : Nat → Bool} {a : Act} {w : World}
theorem ap0V (h : ApV B n qb v0 xs0 c a0 w1 D a w) (hqb : w1.heap[qb]? = some (.cells #[v0] 52 (0, 0))) (hD : D 0 = false) (hz : 15 < a0.tmps.size) : w.cell? ⟨qb, 0, none⟩ = some v0 ∧ ApV B n qb v0 xs0 c a0 w1 (add1 D 0) (a.put (some 10) v0) w := by
  have hd4 : D 4 = false := by cases e : D 4 with | false => rfl | true => rw [(h.d4 e).1] at hD; cases hD
  have hb := (h.b4 hd4 qb (Array.getElem?_eq_some_iff.1 hqb).1).trans hqb
  have hs := h.sz
  refine ⟨by simp [World.cell?, hb], ?_⟩
  refine ⟨by rw [put_df]; exact h.df, by rw [put_sz]; exact hs, fun t ht => by rw [put_of (by omega) (by omega)]; exact h.ot t ht, h.os, h.tp, h.ou, h.hs, h.fr, ?_, ?_, ?_, ?_, ?_, ?_, ?_, ?_, ?_, ?_⟩
  · intro e; rw [add1_ne (by decide), hd4] at e; cases e
  · intro e; rw [add1_ne (by decide)] at e ⊢; exact h.d5 e
  · intro e; rw [add1_ne (by decide)] at e ⊢; exact h.d6 e
  · intro e; rw [add1_ne (by decide)] at e ⊢; exact h.d7 e
  · intro _; exact put_at (by omega)
  · intro e; rw [add1_ne (by decide)] at e; rw [put_of (by omega) (by decide)]; exact h.s1 e
  · intro e; rw [add1_ne (by decide)] at e; rw [put_of (by omega) (by decide)]; exact h.s2 e
  · intro e e4; rw [add1_ne (by decide)] at e e4; rw [put_of (by omega) (by decide)]; exact h.s3 e e4
  · intro e; rw [add1_ne (by decide)] at e; exact h.b4 e
  · intro e; rw [add1_ne (by decide), hd4] at e; cases e
theorem ap1V (h : ApV B n qb v0 xs0 c a0 w1 D a w) (hq3 : w1.heap[q3]? = some (.cells c 55 (0, 0))) (hD : D 1 = false) (hz : 15 < a0.tmps.size) : w.heap[q3]? = some (.cells c 55 (0, 0)) ∧ ApV B n qb v0 xs0 c a0 w1 (add1 D 1) (a.put (some 11) (.agg c)) w := by
  have hd4 : D 4 = false := by cases e : D 4 with | false => rfl | true => rw [(h.d4 e).2.1] at hD; cases hD
  have hb := (h.b4 hd4 q3 (Array.getElem?_eq_some_iff.1 hq3).1).trans hq3
  have hs := h.sz
  refine ⟨hb, ?_⟩
  refine ⟨by rw [put_df]; exact h.df, by rw [put_sz]; exact hs, fun t ht => by rw [put_of (by omega) (by omega)]; exact h.ot t ht, h.os, h.tp, h.ou, h.hs, h.fr, ?_, ?_, ?_, ?_, ?_, ?_, ?_, ?_, ?_, ?_⟩
  · intro e; rw [add1_ne (by decide), hd4] at e; cases e
  · intro e; rw [add1_ne (by decide)] at e ⊢; exact h.d5 e
  · intro e; rw [add1_ne (by decide)] at e ⊢; exact h.d6 e
  · intro e; rw [add1_ne (by decide)] at e ⊢; exact h.d7 e
  · intro e; rw [add1_ne (by decide)] at e; rw [put_of (by omega) (by decide)]; exact h.s0 e
  · intro _; exact put_at (by omega)
  · intro e; rw [add1_ne (by decide)] at e; rw [put_of (by omega) (by decide)]; exact h.s2 e
  · intro e e4; rw [add1_ne (by decide)] at e e4; rw [put_of (by omega) (by decide)]; exact h.s3 e e4
  · intro e; rw [add1_ne (by decide)] at e; exact h.b4 e
  · intro e; rw [add1_ne (by decide), hd4] at e; cases e
theorem ap2V (h : ApV B n qb v0 xs0 c a0 w1 D a w) (hD : D 2 = false) (hz : 15 < a0.tmps.size) : ApV B n qb v0 xs0 c a0 w1 (add1 D 2) (a.put (some 12) (.int .i64 (n : Nat))) w := by
  have hd4 : D 4 = false := by cases e : D 4 with | false => rfl | true => rw [(h.d4 e).2.2.1] at hD; cases hD
  have hs := h.sz
  refine ⟨by rw [put_df]; exact h.df, by rw [put_sz]; exact hs, fun t ht => by rw [put_of (by omega) (by omega)]; exact h.ot t ht, h.os, h.tp, h.ou, h.hs, h.fr, ?_, ?_, ?_, ?_, ?_, ?_, ?_, ?_, ?_, ?_⟩
  · intro e; rw [add1_ne (by decide), hd4] at e; cases e
  · intro e; rw [add1_ne (by decide)] at e ⊢; exact h.d5 e
  · intro e; rw [add1_ne (by decide)] at e ⊢; exact h.d6 e
  · intro e; rw [add1_ne (by decide)] at e ⊢; exact h.d7 e
  · intro e; rw [add1_ne (by decide)] at e; rw [put_of (by omega) (by decide)]; exact h.s0 e
  · intro e; rw [add1_ne (by decide)] at e; rw [put_of (by omega) (by decide)]; exact h.s1 e
  · intro _; exact put_at (by omega)
  · intro e e4; rw [add1_ne (by decide)] at e e4; rw [put_of (by omega) (by decide)]; exact h.s3 e e4
  · intro e; rw [add1_ne (by decide)] at e; exact h.b4 e
  · intro e; rw [add1_ne (by decide), hd4] at e; cases e
theorem ap3V (h : ApV B n qb v0 xs0 c a0 w1 D a w) (hD : D 3 = false) (hz : 15 < a0.tmps.size) : ApV B n qb v0 xs0 c a0 w1 (add1 D 3) (a.put (some 13) (.slice (some ⟨w.heap.size, 0, none⟩) 1 1)) (w.alloc (.cells #[.int .i64 0, .int .i64 0, .string ⟨#[]⟩, .slice none 0 0, .slice none 0 0] 55)) := by
  have hd4 : D 4 = false := by cases e : D 4 with | false => rfl | true => rw [(h.d4 e).2.2.2] at hD; cases hD
  have hs := h.sz
  have hh := h.hs
  have ha : ∀ k, k < w1.heap.size → (w.alloc (.cells #[.int .i64 0, .int .i64 0, .string ⟨#[]⟩, .slice none 0 0, .slice none 0 0] 55)).heap[k]? = w.heap[k]? := fun k hk => by
    show (w.heap.push _)[k]? = _
    rw [Array.getElem?_push, if_neg (by omega)]
  refine ⟨by rw [put_df]; exact h.df, by rw [put_sz]; exact hs, fun t ht => by rw [put_of (by omega) (by omega)]; exact h.ot t ht, h.os, h.tp, h.ou, by simp; omega, fun k hk h1 h2 => (ha k hk).trans (h.fr k hk h1 h2), ?_, ?_, ?_, ?_, ?_, ?_, ?_, ?_, ?_, ?_⟩
  · intro e; rw [add1_ne (by decide), hd4] at e; cases e
  · intro e; rw [add1_ne (by decide)] at e ⊢; exact h.d5 e
  · intro e; rw [add1_ne (by decide)] at e ⊢; exact h.d6 e
  · intro e; rw [add1_ne (by decide)] at e ⊢; exact h.d7 e
  · intro e; rw [add1_ne (by decide)] at e; rw [put_of (by omega) (by decide)]; exact h.s0 e
  · intro e; rw [add1_ne (by decide)] at e; rw [put_of (by omega) (by decide)]; exact h.s1 e
  · intro e; rw [add1_ne (by decide)] at e; rw [put_of (by omega) (by decide)]; exact h.s2 e
  · intro _ _
    refine ⟨w.heap.size, put_at (by omega), hh, ?_⟩
    show (w.heap.push _)[w.heap.size]? = _
    rw [Array.getElem?_push, if_pos rfl]
  · intro e k hk; rw [add1_ne (by decide)] at e; exact (ha k hk).trans (h.b4 e k hk)
  · intro e; rw [add1_ne (by decide), hd4] at e; cases e
theorem ap4V {K : Act → World → Prop} {Q : Exit → Act → World → Prop} {o : Oper} (ho : o.op = .call { callee := .builtin .append, args := #[.tmp 10, .tmp 13], argTypes := #[52, 52] }) (hdst : o.dst = some 14)
    (h : ApV B n qb v0 xs0 c a0 w1 D a w) (hqb : w1.heap[qb]? = some (.cells #[v0] 52 (0, 0))) (hown : w1.ownsRow B 55 5 v0 n xs0) (hB : B ≤ w1.heap.size) (hqB : qb < B) (hn : n ≤ 1000000) (hz : 15 < a0.tmps.size)
    (e0 : D 0 = true) (e1 : D 1 = true) (e2 : D 2 = true) (e3 : D 3 = true) (hD : D 4 = false) (hK : ∀ a' w', ApV B n qb v0 xs0 c a0 w1 (add1 D 4) a' w' → K a' w') : o.wp Tryz.prog a w K Q := by
  obtain ⟨i0, hi, hz0, hz1, hz2⟩ := info_parts inf_V
  obtain ⟨g1, t13, hg1, hc1⟩ := h.s3 e3 hD
  have t10 := h.s0 e0
  have hs := h.sz
  have hownw : w.ownsRow B 55 5 v0 n xs0 := by
    obtain ⟨hl, h1 | ⟨g, cap, cur, hv, hBg, hg, r⟩⟩ := hown
    · exact ⟨hl, .inl h1⟩
    · exact ⟨hl, .inr ⟨g, cap, cur, hv, hBg, (h.b4 hD g (Array.getElem?_eq_some_iff.1 hg).1).trans hg, r⟩⟩
  have hnews : ∀ j u, (#[.int .i64 0, .int .i64 0, .string ⟨#[]⟩, .slice none 0 0, .slice none 0 0] : Array Value).toList[j]? = some u → w.cell? ((⟨g1, 0, none⟩ : Addr).add j) = some u := by
    intro j u hj
    rw [Addr.add_lit, Nat.zero_add]
    simp only [World.cell?, hc1]
    simpa using hj
  obtain ⟨v', w', hr, h4, h5, h5b, h6⟩ := run_append_own_at (P := Tryz.prog) w B 52 o.type 55 i0 _ 5 80 Tryz.underlying52 hi hz0 hz1 hz2 rfl (by decide) v0 n xs0 hownw ⟨g1, 0, none⟩ 1 1 (#[.int .i64 0, .int .i64 0, .string ⟨#[]⟩, .slice none 0 0, .slice none 0 0] : Array Value).toList rfl hnews
      (List.all_eq_true.1 (by kernel_rfl : ((#[.int .i64 0, .int .i64 0, .string ⟨#[]⟩, .slice none 0 0, .slice none 0 0] : Array Value).toList.all (·.oneCell')) = true)) (by unfold maxLen; omega) (by omega) (Nat.le_trans hB h.hs)
  unfold Oper.wp execOp
  have hx0 : a.eval (.tmp 10) = v0 := t10
  have hx1 : a.eval (.tmp 13) = .slice (some ⟨g1, 0, none⟩) 1 1 := t13
  simp only [ho, resolve, invoke, builtin, Sem.run_bind, Sem.run_pure, Result.andThen_ok, List.map_toArray, List.map_cons, List.map_nil, hx0, hx1, hr]
  obtain ⟨gb, cap, rfl⟩ : ∃ gb cap, v' = .slice (some ⟨gb, 0, none⟩) (n + 1) cap := by
    obtain ⟨_, ⟨_, h0⟩ | ⟨g, cap, cur, hv, _⟩⟩ := h4
    · omega
    · exact ⟨g, cap, hv⟩
  show K (a.put o.dst _) w'
  rw [hdst]
  refine hK _ _ ?_
  have hk5 : ∀ k, k < w1.heap.size → some k ≠ v0.ownBlock → w'.heap[k]? = w1.heap[k]? := fun k hk hne => (h5.block k (Nat.lt_of_lt_of_le hk h.hs) hne).trans (h.b4 hD k hk)
  have hqn : some qb ≠ v0.ownBlock := fun e => by
    have := hown.lt qb e.symm
    omega
  refine ⟨by rw [put_df]; exact h.df, by rw [put_sz]; exact hs, fun t ht => by rw [put_of (by omega) (by omega)]; exact h.ot t ht, h5.os.trans h.os, h5.tape.trans h.tp, h5.output.trans h.ou, Nat.le_trans h.hs h5.size, fun k hk _ h2 => hk5 k hk h2, ?_, ?_, ?_, ?_, ?_, ?_, ?_, ?_, ?_, ?_⟩
  · intro _; rw [add1_ne (by decide), add1_ne (by decide), add1_ne (by decide), add1_ne (by decide)]; exact ⟨e0, e1, e2, e3⟩
  · intro _; exact add1_eq
  · intro e; rw [add1_ne (by decide)] at e ⊢; exact h.d6 e
  · intro _; exact add1_eq
  · intro _; rw [put_of (by omega) (by decide)]; exact t10
  · intro _; rw [put_of (by omega) (by decide)]; exact h.s1 e1
  · intro _; rw [put_of (by omega) (by decide)]; exact h.s2 e2
  · intro _ e; rw [add1_eq] at e; cases e
  · intro e; rw [add1_eq] at e; cases e
  · intro _
    have f5 : D 5 = false := by cases e : D 5 with | false => rfl | true => rw [h.d5 e] at hD; cases hD
    have f6 : D 6 = false := by cases e : D 6 with | false => rfl | true => rw [h.d6 e] at f5; cases f5
    have f7 : D 7 = false := by cases e : D 7 with | false => rfl | true => rw [h.d7 e] at hD; cases hD
    refine ⟨gb, cap, put_at (by omega), ?_, ?_, ?_, ?_⟩
    · rcases h6 with e | e
      · exact .inl e
      · right
        have : some gb = some w.heap.size := e
        have := h.hs
        simp at *
        omega
    · rw [add1_ne (by decide), f6, if_neg (by simp)]; exact h4
    · intro e; rw [add1_ne (by decide), f5] at e; cases e
    · rw [add1_ne (by decide), f7, if_neg (by simp)]; exact (hk5 qb (by omega) hqn).trans hqb
theorem ap5V (h : ApV B n qb v0 xs0 c a0 w1 D a w) (e4 : D 4 = true) (hz : 15 < a0.tmps.size) : ∃ gb cap, a.tmps.getD 14 undef = .slice (some ⟨gb, 0, none⟩) (n + 1) cap ∧ ApV B n qb v0 xs0 c a0 w1 (add1 D 5) (a.put (some 15) (.pointer (some ⟨gb, n * 5, none⟩))) w := by
  obtain ⟨gb, cap, t14, h1, h2, h3, h4⟩ := h.s4 e4
  have hs := h.sz
  refine ⟨gb, cap, t14, ?_⟩
  refine ⟨by rw [put_df]; exact h.df, by rw [put_sz]; exact hs, fun t ht => by rw [put_of (by omega) (by omega)]; exact h.ot t ht, h.os, h.tp, h.ou, h.hs, h.fr, ?_, ?_, ?_, ?_, ?_, ?_, ?_, ?_, ?_, ?_⟩
  · intro _; rw [add1_ne (by decide), add1_ne (by decide), add1_ne (by decide), add1_ne (by decide)]; exact h.d4 e4
  · intro _; rw [add1_ne (by decide)]; exact e4
  · intro _; exact add1_eq
  · intro _; rw [add1_ne (by decide)]; exact e4
  · intro e; rw [add1_ne (by decide)] at e; rw [put_of (by omega) (by decide)]; exact h.s0 e
  · intro e; rw [add1_ne (by decide)] at e; rw [put_of (by omega) (by decide)]; exact h.s1 e
  · intro e; rw [add1_ne (by decide)] at e; rw [put_of (by omega) (by decide)]; exact h.s2 e
  · intro _ e; rw [add1_ne (by decide), e4] at e; cases e
  · intro e; rw [add1_ne (by decide), e4] at e; cases e
  · intro _
    refine ⟨gb, cap, by rw [put_of (by omega) (by decide)]; exact t14, h1, ?_, fun _ => put_at (by omega), ?_⟩
    · rw [add1_ne (by decide)]; exact h2
    · rw [add1_ne (by decide)]; exact h4
theorem st_eV {w : World} {gb o : Nat} {cur c : Array Value} {t : TypeId} (hg : w.heap[gb]? = some (.cells cur t (0, 0))) (hc : c.size = 5) (hfit : o + 5 ≤ cur.size) (h1 : c.all (·.oneCell') = true) :
    (Instr.storeAt 55 (.pointer (some ⟨gb, o, none⟩)) (.agg c)).run Tryz.prog w = .ok () (w.setRow gb (cur.toList.take o ++ c.toList ++ cur.toList.drop (o + 5)).toArray) := by
  have hst := run_storeCells_at Tryz.prog gb o t c.toList 0 cur w hg (by simp [hc]; exact hfit) (fun v hv => Array.all_eq_true_iff_forall_mem.1 h1 v (by simpa using hv))
  obtain ⟨i0, hi, hz0, hz1, hz2⟩ := info_parts inf_V
  have hs : c.size = i0.size := by rw [hc, hz1]
  have hl : c.toList.length = 5 := by simpa using hc
  rw [hl] at hst
  simp only [Nat.add_zero] at hst
  simp only [Instr.storeAt, Instr.sureAddr, Sem.run_bind, Sem.run_pure, Result.andThen_ok]
  simp [storeVar, sizeOf, typeInfo, hi, Value.cells, hs, hst]
theorem own_stV {w : World} {B gb n cap : Nat} {xs0 zs : List Value} {c : Array Value} (h : w.ownsRow B 55 5 (.slice (some ⟨gb, 0, none⟩) (n + 1) cap) (n + 1) (xs0 ++ zs)) (hx : xs0.length = n * 5) (hc : c.size = 5) (h1 : c.all (·.oneCell') = true) :
    ∃ w', (Instr.storeAt 55 (.pointer (some ⟨gb, n * 5, none⟩)) (.agg c)).run Tryz.prog w = .ok () w' ∧ w'.ownsRow B 55 5 (.slice (some ⟨gb, 0, none⟩) (n + 1) cap) (n + 1) (xs0 ++ c.toList) ∧ (∀ k, k ≠ gb → w'.heap[k]? = w.heap[k]?) ∧ w'.os = w.os ∧ w'.tape = w.tape ∧ w'.output = w.output ∧ w'.heap.size = w.heap.size := by
  obtain ⟨hl, ⟨_, h0⟩ | ⟨g, cap', cur, hv, hB, hg, hcap, hm, hcs, htk⟩⟩ := h
  · omega
  · cases hv
    have hcl : c.toList.length = 5 := by simpa using hc
    have hfit : n * 5 + 5 ≤ cur.size := by rw [hcs]; omega
    refine ⟨_, st_eV hg hc hfit h1, ⟨?_, .inr ⟨gb, cap, _, rfl, hB, setRow_heap w gb _ _ _ _ hg, hcap, hm, ?_, ?_⟩⟩, fun k hk => setRow_other w gb k _ hk, rfl, rfl, rfl, by simp [World.setRow]⟩
    · rw [List.length_append, hx, hcl]; omega
    · simp [hcl]; omega
    · have e1 : cur.toList.take (n * 5) = xs0 := by
        have := congrArg (List.take (n * 5)) htk
        rw [List.take_take, Nat.min_eq_left (by omega), List.take_left' hx] at this
        exact this
      rw [List.append_assoc]
      show (cur.toList.take (n * 5) ++ (c.toList ++ cur.toList.drop (n * 5 + 5))).take ((n + 1) * 5) = xs0 ++ c.toList
      rw [e1, ← List.append_assoc, List.take_left' (by rw [List.length_append, hx, hcl]; omega)]
theorem ap6V {K : Act → World → Prop} {Q : Exit → Act → World → Prop} {o : Oper} (ho : o.op = .store 55 (.tmp 15) (.tmp 11)) (hdst : o.dst = none)
    (h : ApV B n qb v0 xs0 c a0 w1 D a w) (hx : xs0.length = n * 5) (hc : c.size = 5) (h1 : c.all (·.oneCell') = true) (hqB : qb < B) (hown : w1.ownsRow B 55 5 v0 n xs0) (hB : B ≤ w1.heap.size)
    (e1 : D 1 = true) (e4 : D 4 = true) (e5 : D 5 = true) (hK : ∀ a' w', ApV B n qb v0 xs0 c a0 w1 (add1 D 6) a' w' → K a' w') : o.wp Tryz.prog a w K Q := by
  obtain ⟨gb, cap, t14, g1, g2, g3, g4⟩ := h.s4 e4
  obtain ⟨w', hr, hrow, hk, ho1, ho2, ho3, hsz⟩ := own_stV g2 hx hc h1
  have hx0 : a.eval (.tmp 15) = .pointer (some ⟨gb, n * 5, none⟩) := g3 e5
  have hx1 : a.eval (.tmp 11) = .agg c := h.s1 e1
  have hBg : B ≤ gb := by
    rcases g1 with e | e
    · exact (hown.lt gb e.symm).1
    · omega
  unfold Oper.wp execOp
  simp only [ho, hx0, hx1, Sem.run_bind, hr, Result.andThen_ok, Sem.run_pure]
  show K (a.put o.dst _) w'
  rw [hdst]
  refine hK _ _ ?_
  refine ⟨h.df, h.sz, h.ot, ho1.trans h.os, ho2.trans h.tp, ho3.trans h.ou, by rw [hsz]; exact h.hs, fun k hk1 hk2 hk3 => (hk k (fun e => by
      subst e
      rcases g1 with e | e
      · exact hk3 e
      · omega)).trans (h.fr k hk1 hk2 hk3), ?_, ?_, ?_, ?_, ?_, ?_, ?_, ?_, ?_, ?_⟩
  · intro _; rw [add1_ne (by decide), add1_ne (by decide), add1_ne (by decide), add1_ne (by decide)]; exact h.d4 e4
  · intro _; rw [add1_ne (by decide)]; exact e4
  · intro _; rw [add1_ne (by decide)]; exact e5
  · intro _; rw [add1_ne (by decide)]; exact e4
  · intro e; rw [add1_ne (by decide)] at e; exact h.s0 e
  · intro e; rw [add1_ne (by decide)] at e; exact h.s1 e
  · intro e; rw [add1_ne (by decide)] at e; exact h.s2 e
  · intro _ e; rw [add1_ne (by decide), e4] at e; cases e
  · intro e; rw [add1_ne (by decide), e4] at e; cases e
  · intro _
    refine ⟨gb, cap, t14, g1, ?_, fun _ => g3 e5, ?_⟩
    · rw [add1_eq, if_pos rfl]; exact hrow
    · rw [add1_ne (by decide)]; exact (hk qb (by omega)).trans g4
theorem ap7V {K : Act → World → Prop} {Q : Exit → Act → World → Prop} {o : Oper} (ho : o.op = .store 52 (.tmp 1) (.tmp 14)) (hdst : o.dst = none)
    (h : ApV B n qb v0 xs0 c a0 w1 D a w) (ht1 : a0.tmps.getD 1 undef = .pointer (some ⟨qb, 0, none⟩)) (hqB : qb < B) (hown : w1.ownsRow B 55 5 v0 n xs0) (hB : B ≤ w1.heap.size)
    (e4 : D 4 = true) (hK : ∀ a' w', ApV B n qb v0 xs0 c a0 w1 (add1 D 7) a' w' → K a' w') : o.wp Tryz.prog a w K Q := by
  obtain ⟨gb, cap, t14, g1, g2, g3, g4⟩ := h.s4 e4
  have hx0 : a.eval (.tmp 1) = .pointer (some ⟨qb, 0, none⟩) := (h.ot 1 (by decide)).trans ht1
  have hx1 : a.eval (.tmp 14) = .slice (some ⟨gb, 0, none⟩) (n + 1) cap := t14
  have hBg : B ≤ gb := by
    rcases g1 with e | e
    · exact (hown.lt gb e.symm).1
    · omega
  have hc : w.cell? ⟨qb, 0, none⟩ = some (if D 7 = true then .slice (some ⟨gb, 0, none⟩) (n + 1) cap else v0) := by simp [World.cell?, g4]
  have hf : w.frozen? ⟨qb, 0, none⟩ = false := by simp [World.frozen?, g4]
  have hr : (Instr.storeAt 52 (.pointer (some ⟨qb, 0, none⟩)) (.slice (some ⟨gb, 0, none⟩) (n + 1) cap)).run Tryz.prog w = .ok () (w.setRow qb #[.slice (some ⟨gb, 0, none⟩) (n + 1) cap]) := by
    have e : w.setCell ⟨qb, 0, none⟩ (.slice (some ⟨gb, 0, none⟩) (n + 1) cap) = w.setRow qb #[.slice (some ⟨gb, 0, none⟩) (n + 1) cap] := by
      rw [setCell_eq_setRow w qb 0 _ _ (0, 0) _ g4]; rfl
    rw [← e]
    simp [Instr.storeAt, Instr.sureAddr, go_sem, hc, hf]
  unfold Oper.wp execOp
  simp only [ho, hx0, hx1, Sem.run_bind, hr, Result.andThen_ok, Sem.run_pure]
  show K (a.put o.dst _) _
  rw [hdst]
  refine hK _ _ ?_
  refine ⟨h.df, h.sz, h.ot, h.os, h.tp, h.ou, by simpa [World.setRow] using h.hs, fun k hk1 hk2 hk3 => (setRow_other w qb k _ hk2).trans (h.fr k hk1 hk2 hk3), ?_, ?_, ?_, ?_, ?_, ?_, ?_, ?_, ?_, ?_⟩
  · intro _; rw [add1_ne (by decide), add1_ne (by decide), add1_ne (by decide), add1_ne (by decide)]; exact h.d4 e4
  · intro _; rw [add1_ne (by decide)]; exact e4
  · intro e; rw [add1_ne (by decide)] at e ⊢; exact h.d6 e
  · intro _; rw [add1_ne (by decide)]; exact e4
  · intro e; rw [add1_ne (by decide)] at e; exact h.s0 e
  · intro e; rw [add1_ne (by decide)] at e; exact h.s1 e
  · intro e; rw [add1_ne (by decide)] at e; exact h.s2 e
  · intro _ e; rw [add1_ne (by decide), e4] at e; cases e
  · intro e; rw [add1_ne (by decide), e4] at e; cases e
  · intro _
    refine ⟨gb, cap, t14, g1, ?_, fun e => g3 (by rw [add1_ne (by decide)] at e; exact e), ?_⟩
    · rw [add1_ne (by decide)]
      obtain ⟨hl, ⟨hv, _⟩ | ⟨g, cap', cur, hv, hB', hg, r⟩⟩ := g2
      · cases hv
      · cases hv
        exact ⟨hl, .inr ⟨gb, cap, cur, rfl, hB', (setRow_other w qb gb _ (by omega)).trans hg, r⟩⟩
    · rw [add1_eq, if_pos rfl]; exact setRow_heap w qb _ _ _ _ g4
end
theorem ldEV {w : World} {q3 : Nat} {c : Array Value} (h : w.heap[q3]? = some (.cells c 55 (0, 0))) (hc : c.size = 5) : (Instr.loadAt 55 (.pointer (some ⟨q3, 0, none⟩))).run Tryz.prog w = .ok (.agg c) w := by
  have hl := run_loadVar_row (P := Tryz.prog) w q3 55 55 c (0, 0) _ h Tryz.underlying55 (by rfl) (by rw [hc]; kernel_rfl)
  simp [Instr.loadAt, Instr.sureAddr, hl]
theorem lenV {w : World} {a : Option Addr} {n cap : Nat} : (Builtin.len_ #[52] 3 #[.slice a n cap]).run Tryz.prog w = .ok (.int .i64 (n : Nat)) w := by
  simp [Builtin.len_, go_sem]
theorem arr17V (tm : Array Value) (h : tm.size = 17) : tm = #[tm.getD 0 undef, tm.getD 1 undef, tm.getD 2 undef, tm.getD 3 undef, tm.getD 4 undef, tm.getD 5 undef, tm.getD 6 undef, tm.getD 7 undef, tm.getD 8 undef, tm.getD 9 undef, tm.getD 10 undef, tm.getD 11 undef, tm.getD 12 undef, tm.getD 13 undef, tm.getD 14 undef, tm.getD 15 undef, tm.getD 16 undef] := by
  apply Array.ext
  · exact h
  · intro i h1 h2
    have hi : i < 17 := by omega
    match i, hi with
    | 0, _ | 1, _ | 2, _ | 3, _ | 4, _ | 5, _ | 6, _ | 7, _ | 8, _ | 9, _ | 10, _ | 11, _ | 12, _ | 13, _ | 14, _ | 15, _ | 16, _ => simp [Array.getD, h]
    | _ + 17, hi => exact absurd hi (by omega)
def AnEV (Pc : List Value → Prop) (g B qr qa qb : Nat) (w0 : World) (d : Int) (v : Value) (cs : List (List Value)) (w : World) (o : Option (T × List UInt8)) (ed : Ending) (w' : World) : Prop :=
  ∃ m' v' c, ed = .returned (.bool o.isSome) ∧ Rd w' g m' d ∧ Ls Pc 52 55 5 g B qr qa qb w0 v' (cs ++ [c]) w' ∧ (∀ t x, VA (fun k => B ≤ k ∧ some k ≠ v.ownBlock) w t x → VA (fun k => B ≤ k ∧ some k ≠ v'.ownBlock) w' t x) ∧ (∀ q', q' ≠ g → Bx w q' g → Bx w' q' g) ∧ ∀ t r, o = some (t, r) → m' = r ∧ VA (fun k => B ≤ k ∧ some k ≠ v'.ownBlock) w' t c
set_option maxHeartbeats 8000000 in
set_option maxRecDepth 100000 in
theorem list1_d {Pc : List Value → Prop} {g B qr qa qb : Nat} {w0 : World} {d : Int} {v : Value} {cs : List (List Value)} {w : World} {o : Option (T × List UInt8)} (q : Lq g B qr qa qb w0) (hL : Ls Pc 52 55 5 g B qr qa qb w0 v cs w) (hn : cs.length ≤ 1000000)
    (hc : Calls Tryz.prog 33 #[.pointer (some ⟨g, 0, none⟩)] w fun e w' => AnV g d w o e w' ∧ ∀ c b, e = .returned (.tuple #[.agg c, .bool b]) → Pc c.toList) :
    Calls Tryz.prog 153 #[.pointer (some ⟨qr, 0, none⟩), .pointer (some ⟨qb, 0, none⟩)] w (AnEV Pc g B qr qa qb w0 d v cs w o) := by
  have c0 := hL.bx.cell
  have hBs := hL.bs
  have hgB : g < B := by have := q.g0; have := q.r0; have := q.r1; omega
  go_enter Tryz.func153, Tryz.ntmps153
  go_wp2_with fail
  refine hc.mono ?_
  rintro e w1 ⟨⟨c, m1, rfl, hcs, hco, r1, k1, hv⟩, hPc⟩
  replace hPc := hPc c _ rfl
  have hr : (w1.alloc (.cells #[.int .i64 0, .int .i64 0, .string ⟨#[]⟩, .slice none 0 0, .slice none 0 0] 55)).heap[w1.heap.size]? = some (.cells #[.int .i64 0, .int .i64 0, .string ⟨#[]⟩, .slice none 0 0, .slice none 0 0] 55 (0, 0)) := by
    show (w1.heap.push _)[w1.heap.size]? = _
    rw [Array.getElem?_push, if_pos rfl]
  have hg1 := r1.lt
  have r2 := (r1.alloc (.cells #[.int .i64 0, .int .i64 0, .string ⟨#[]⟩, .slice none 0 0, .slice none 0 0] 55)).own (b := w1.heap.size) (by omega) c
  have k2 : Kg g w ((w1.alloc (.cells #[.int .i64 0, .int .i64 0, .string ⟨#[]⟩, .slice none 0 0, .slice none 0 0] 55)).setRow w1.heap.size c) := (k1.trans (Kg.alloc w1 _)).own k1.size c
  have h3 := setRow_heap (w1.alloc (.cells #[.int .i64 0, .int .i64 0, .string ⟨#[]⟩, .slice none 0 0, .slice none 0 0] 55)) w1.heap.size _ c _ _ hr
  have k12 : Below w1.heap.size w1 ((w1.alloc (.cells #[.int .i64 0, .int .i64 0, .string ⟨#[]⟩, .slice none 0 0, .slice none 0 0] 55)).setRow w1.heap.size c) := ⟨rfl, rfl, rfl, by simp [World.setRow], fun k hk => (setRow_other _ _ k c (by omega)).trans (by
    show (w1.heap.push _)[k]? = _
    rw [Array.getElem?_push, if_neg (by omega)])⟩
  have L2 := hL.step q k2
  have hq3 : B ≤ w1.heap.size := Nat.le_trans hBs k1.size
  replace r2 := hide1 r2
  replace k2 := hide1 k2
  replace h3 := hide1 h3
  replace k12 := hide1 k12
  replace L2 := hide1 L2
  replace hL := hide1 hL
  replace r1 := hide1 r1
  replace k1 := hide1 k1
  replace hv := hide1 hv
  clear hc
  have hst : (storeCells ⟨w1.heap.size, 0, none⟩ c.toList).run Tryz.prog (w1.alloc (.cells #[.int .i64 0, .int .i64 0, .string ⟨#[]⟩, .slice none 0 0, .slice none 0 0] 55)) = .ok () ((w1.alloc (.cells #[.int .i64 0, .int .i64 0, .string ⟨#[]⟩, .slice none 0 0, .slice none 0 0] 55)).setRow w1.heap.size c) := by
    have := run_storeCells_from (P := Tryz.prog) w1.heap.size 55 c.toList 0 #[.int .i64 0, .int .i64 0, .string ⟨#[]⟩, .slice none 0 0, .slice none 0 0] _ hr (by simp [hcs]) (fun v hv => Array.all_eq_true_iff_forall_mem.1 hco v (by simpa using hv))
    simpa using this
  go_upto_region 2 with fail
  generalize (w1.alloc (.cells #[.int .i64 0, .int .i64 0, .string ⟨#[]⟩, .slice none 0 0, .slice none 0 0] 55)).setRow w1.heap.size c = w2 at *
  generalize hq3e : w1.heap.size = q3 at *
  have hqb := L2.out.bb
  have hown := L2.out.row
  have hB2 := L2.out.bs
  have hqB := q.b1
  obtain ⟨va, vc, rfl⟩ : ∃ va vc, v = .slice va cs.length vc := by
    obtain ⟨_, ⟨h1, h2⟩ | ⟨g', cap, cur, h1, _⟩⟩ := hown
    · exact ⟨none, 0, by rw [h1, h2]⟩
    · exact ⟨_, cap, h1⟩
  refine wp_inv _ _ (by kernel_rfl) (by kernel_rfl) (by kernel_rfl) (ApV B cs.length qb (.slice va cs.length vc) cs.flatten c { tmps := #[.pointer (some ⟨qr, 0, none⟩), .pointer (some ⟨qb, 0, none⟩), .bool false, .pointer (some ⟨q3, 0, none⟩), .bool o.isSome, .tuple #[.agg c, .bool o.isSome], .pointer (some ⟨g, 0, none⟩), .tuple #[.agg c, .bool o.isSome], .agg c, .bool o.isSome, undef, undef, undef, undef, undef, undef, undef], defers := [] } w2) ?_ ?_ ?_
  · exact ⟨rfl, rfl, fun _ _ => rfl, rfl, rfl, rfl, Nat.le_refl _, fun _ _ _ _ => rfl, nofun, nofun, nofun, nofun, nofun, nofun, nofun, nofun, fun _ _ _ => rfl, nofun⟩
  · intro D a w hI i o ho hD hdep K hK
    match i, ho with
    | 0, ho =>
      obtain rfl := Option.some.inj ho
      obtain ⟨hl, hA⟩ := ap0V hI hqb hD (by show 15 < 17; decide)
      have t1 : a.tmps.getD 1 undef = .pointer (some ⟨qb, 0, none⟩) := hI.ot 1 (by decide)
      exact wp_val (w' := w) (by simp only [execOp, Act.eval]; rw [show a.tmps.getD 1 undef = _ from t1]; simp only [Sem.run_bind, ld_sV hl, Result.andThen_ok, Sem.run_pure]) (hK _ _ hA)
    | 1, ho =>
      obtain rfl := Option.some.inj ho
      obtain ⟨hl, hA⟩ := ap1V hI h3.out hD (by show 15 < 17; decide)
      have t1 : a.tmps.getD 3 undef = .pointer (some ⟨q3, 0, none⟩) := hI.ot 3 (by decide)
      exact wp_val (w' := w) (by simp only [execOp, Act.eval]; rw [show a.tmps.getD 3 undef = _ from t1]; simp only [Sem.run_bind, ldEV hl hcs, Result.andThen_ok, Sem.run_pure]) (hK _ _ hA)
    | 2, ho =>
      obtain rfl := Option.some.inj ho
      have t1 := hI.s0 (hdep ⟨0, .data⟩ (by simp) rfl)
      exact wp_val (w' := w) (by simp only [execOp, resolve, invoke, builtin, List.map_toArray, List.map_cons, List.map_nil, Sem.run_bind, Sem.run_pure, Result.andThen_ok, Act.eval]; rw [show a.tmps.getD 10 undef = _ from t1]; simp only [lenV, Result.andThen_ok]) (hK _ _ (ap2V hI hD (by show 15 < 17; decide)))
    | 3, ho =>
      obtain rfl := Option.some.inj ho
      have hl := bs_zV w
      refine wp_val (w' := w.alloc (.cells #[.int .i64 0, .int .i64 0, .string ⟨#[]⟩, .slice none 0 0, .slice none 0 0] 55)) (v := .slice (some ⟨w.heap.size, 0, none⟩) 1 1) (by simp only [execOp, Act.eval, List.map_toArray, List.map_cons, List.map_nil, Sem.run_bind, hl, Result.andThen_ok, Sem.run_pure]) ?_
      exact hK _ _ (ap3V hI hD (by show 15 < 17; decide))
    | 4, ho =>
      obtain rfl := Option.some.inj ho
      exact ap4V rfl rfl hI hqb hown hB2 hqB hn (by show 15 < 17; decide) (hdep ⟨0, .data⟩ (by simp) rfl) (hdep ⟨1, .phase⟩ (by simp) rfl) (hdep ⟨2, .phase⟩ (by simp) rfl) (hdep ⟨3, .data⟩ (by simp) rfl) hD hK
    | 5, ho =>
      obtain rfl := Option.some.inj ho
      obtain ⟨gb, cap, t14, hA⟩ := ap5V hI (hdep ⟨4, .data⟩ (by simp) rfl) (by show 15 < 17; decide)
      have t12 := hI.s2 (hdep ⟨2, .data⟩ (by simp) rfl)
      exact wp_val (w' := w) (by simp only [execOp, Act.eval]; rw [show a.tmps.getD 14 undef = _ from t14, show a.tmps.getD 12 undef = _ from t12]; simp only [Sem.run_bind, ix_sV (Nat.lt_succ_self _), Result.andThen_ok, Sem.run_pure]) (hK _ _ hA)
    | 6, ho =>
      obtain rfl := Option.some.inj ho
      exact ap6V rfl rfl hI hown.1 hcs hco hqB hown hB2 (hdep ⟨1, .data⟩ (by simp) rfl) (hdep ⟨4, .chain⟩ (by simp) rfl) (hdep ⟨5, .data⟩ (by simp) rfl) hK
    | 7, ho =>
      obtain rfl := Option.some.inj ho
      exact ap7V rfl rfl hI rfl hqB hown hB2 (hdep ⟨4, .data⟩ (by simp) rfl) hK
    | _ + 8, ho => exact absurd ho (by simp)
  · intro D a w3 hI hall
    have hsz : a.tmps.size = 17 := hI.sz
    have hdf : a.defers = [] := hI.df
    have t4 : a.tmps.getD 4 undef = .bool o.isSome := hI.ot 4 (by decide)
    obtain ⟨gb, cap, t14, g1, g2, g3, g4⟩ := hI.s4 (hall 4 (by simp))
    rw [hall 6 (by simp), if_pos rfl] at g2
    rw [hall 7 (by simp), if_pos rfl] at g4
    have hE : ApE 52 55 5 B cs.length qb (.slice va cs.length vc) cs.flatten c w2 w3 (.slice (some ⟨gb, 0, none⟩) (cs.length + 1) cap) := ⟨hI.os, hI.tp, hI.ou, hI.hs, hI.fr, ⟨gb, cap, rfl, g1⟩, g2, g4⟩
    have hL3 := L2.out.put q hE ⟨hcs, hPc⟩
    have hlow : ∀ k, k < w2.heap.size → k ≠ qb → some k ≠ (Value.slice va cs.length vc).ownBlock → w3.heap[k]? = w2.heap[k]? := hI.fr
    have hrg : Rd w3 g m1 d := (hlow g r2.out.lt (by have := q.g0; have := q.b0; omega) (fun e => by
      have := (hown.lt g e.symm).1
      omega)).trans r2.out
    have ha : Hid (AnEV Pc g B qr qa qb w0 d (.slice va cs.length vc) cs w o (.returned (.bool o.isSome)) w3) := hide1 (by
      refine ⟨m1, _, c.toList, rfl, hrg, hL3, fun t x hx => ?_, fun q' hq' hx => ?_, fun t r e => ?_⟩
      · refine VA.put q hE (hx.frame (fun k hk hs => k2.out.block k hs ?_) (fun k hk _ => hk))
        have := hk.1
        omega
      · have hx2 : Bx w2 q' g := hx.kg k2.out hq'
        refine (hlow q' hx2.lt (fun e => ?_) (fun e => ?_)).trans hx2
        · subst e
          have := hx2.symm.trans hqb
          simp at this
        · obtain ⟨_, ⟨h1, _⟩ | ⟨g', cap', cur, h1, _, h2, _⟩⟩ := hown
          · rw [h1] at e; cases e
          · rw [h1] at e
            have : q' = g' := by simpa [Value.ownBlock] using e
            subst this
            have := hx2.symm.trans h2
            simp at this
      · obtain ⟨e1, e2⟩ := hv.out t r e
        refine ⟨e1, ?_⟩
        exact VA.put q hE (e2.frame (fun k hk hs => k12.out.block k (by rw [← hq3e]; exact hs)) (fun k hk hs => ⟨Nat.le_trans hBs hk, fun e3 => by
          have h1 := (hL.out.row.lt k e3.symm).2
          have h2 : w.heap.size ≤ k := hk
          omega⟩)))
    clear hI hL3 hE g2 g4 g3 hlow hrg
    obtain ⟨tm, df⟩ := a
    obtain rfl : df = [] := hdf
    replace hsz : tm.size = 17 := hsz
    replace t4 : tm.getD 4 undef = .bool o.isSome := t4
    have hex := arr17V tm hsz
    rw [t4] at hex
    generalize tm.getD 0 undef = x0 at hex
    generalize tm.getD 1 undef = x1 at hex
    generalize tm.getD 2 undef = x2 at hex
    generalize tm.getD 3 undef = x3 at hex
    generalize tm.getD 5 undef = x5 at hex
    generalize tm.getD 6 undef = x6 at hex
    generalize tm.getD 7 undef = x7 at hex
    generalize tm.getD 8 undef = x8 at hex
    generalize tm.getD 9 undef = x9 at hex
    generalize tm.getD 10 undef = x10 at hex
    generalize tm.getD 11 undef = x11 at hex
    generalize tm.getD 12 undef = x12 at hex
    generalize tm.getD 13 undef = x13 at hex
    generalize tm.getD 14 undef = x14 at hex
    generalize tm.getD 15 undef = x15 at hex
    generalize tm.getD 16 undef = x16 at hex
    subst hex
    refine (‹∀ (a : Act) (w : World), Code.wp Tryz.prog _ _ a w → _›) _ w3 ?_
    clear t4 t14
    go_wp2
    go_ret
    exact ha.out
section
variable {P : Program} {Q : Exit → Act → World → Prop}
def finB (l : List Oper) (fin n : Nat) : Bool := (List.range l.length).all fun i => i == fin || (match l[i]?, l[fin]? with
  | some o, some f => f.after.any (fun e => Region.binds .any e && (e.on == i || (match l[e.on]? with
    | some oj => oj.after.any (fun e2 => Region.binds .any e2 && e2.on == i)
    | none => false))) && (match o.dst with
    | some d => decide (d < n) && (List.range l.length).all fun j => j == i || ((l[j]?).bind (·.dst)) != some d
    | none => false)
  | _, _ => false)
def wrB (l : List Oper) (t : Nat) : Bool := l.any fun o => o.dst == some t
theorem finB_at {l : List Oper} {fin n : Nat} (h : finB l fin n = true) {i : Nat} {o f : Oper} (ho : l[i]? = some o) (hf : l[fin]? = some f) (hi : i ≠ fin) :
    (∃ e ∈ f.after, Region.binds .any e = true ∧ (e.on = i ∨ ∃ oj, l[e.on]? = some oj ∧ ∃ e2 ∈ oj.after, Region.binds .any e2 = true ∧ e2.on = i)) ∧ ∃ d, o.dst = some d ∧ d < n ∧ ∀ j oj, l[j]? = some oj → j ≠ i → oj.dst ≠ some d := by
  have hil := (List.getElem?_eq_some_iff.1 ho).1
  have h1 := List.all_eq_true.1 h i (by simp [hil])
  simp only [ho, hf, Bool.or_eq_true, beq_iff_eq, hi, false_or, Bool.and_eq_true] at h1
  obtain ⟨h2, h3⟩ := h1
  obtain ⟨e, he, h4⟩ := Array.any_eq_true'.1 h2
  simp only [Bool.and_eq_true, Bool.or_eq_true, beq_iff_eq] at h4
  refine ⟨⟨e, he, h4.1, ?_⟩, ?_⟩
  · rcases h4.2 with h5 | h5
    · exact .inl h5
    · cases hj : l[e.on]? with
      | none => rw [hj] at h5; cases h5
      | some oj =>
        rw [hj] at h5
        obtain ⟨e2, he2, h6⟩ := Array.any_eq_true'.1 h5
        simp only [Bool.and_eq_true, beq_iff_eq] at h6
        exact .inr ⟨oj, rfl, e2, he2, h6.1, h6.2⟩
  cases hd : o.dst with
  | none => rw [hd] at h3; cases h3
  | some d =>
    rw [hd] at h3
    simp only [Bool.and_eq_true, decide_eq_true_eq] at h3
    refine ⟨d, rfl, h3.1, fun j oj hj hne e => ?_⟩
    have h5 := List.all_eq_true.1 h3.2 j (by simp [(List.getElem?_eq_some_iff.1 hj).1])
    simp [hj, hne, e] at h5
theorem add1_mono {D : Nat → Bool} {i k : Nat} (h : D k = true) : add1 D i k = true := by unfold add1; split <;> simp_all
theorem wp_flow {l : List Oper} {id : Nat} (fin : Nat) (a0 : Act) (w0 : World) (hm : P.follows .mixedOrders = true) (hac : acycB l.toArray = true) (hg : l.all (fun o => o.guard.isNone) = true) (hfin : finB l fin a0.tmps.size = true) {f : Oper} (hf : l[fin]? = some f)
    (Rr : Nat → Value → World → Prop) (hmono : ∀ i v w w', Rr i v w → Below w.heap.size w w' → Rr i v w')
    (hop : ∀ i o, l[i]? = some o → i ≠ fin → ∀ a w, Below w0.heap.size w0 w → (∀ t, wrB l t = false → a.tmps.getD t undef = a0.tmps.getD t undef) → (∀ j oj d, l[j]? = some oj → oj.dst = some d → (∃ e ∈ o.after, Region.binds .any e = true ∧ e.on = j) → Rr j (a.tmps.getD d undef) w) →
      ∀ K : Act → World → Prop, (∀ v w', Below w.heap.size w w' → Rr i v w' → K (a.put o.dst v) w') → o.wp P a w K Q)
    (hlast : ∀ a w, Below w0.heap.size w0 w → a.defers = a0.defers → a.tmps.size = a0.tmps.size → (∀ t, wrB l t = false → a.tmps.getD t undef = a0.tmps.getD t undef) → (∀ j oj d, l[j]? = some oj → j ≠ fin → oj.dst = some d → Rr j (a.tmps.getD d undef) w) →
      ∀ K : Act → World → Prop, (∀ a' w', Q .normal a' w' → K a' w') → f.wp P a w K Q) : (Code.region id l.toArray true).wp P Q a0 w0 := by
  refine wp_inv a0 w0 hm hac hg (fun D a w => ((∀ j, j < l.length → D j = true) ∧ Q .normal a w) ∨ (D fin = false ∧ a.defers = a0.defers ∧ a.tmps.size = a0.tmps.size ∧ Below w0.heap.size w0 w ∧ (∀ t, wrB l t = false → a.tmps.getD t undef = a0.tmps.getD t undef) ∧ (∀ j oj, l[j]? = some oj → D j = true → ∀ e ∈ oj.after, Region.binds .any e = true → D e.on = true) ∧ ∀ j oj d, l[j]? = some oj → D j = true → oj.dst = some d → Rr j (a.tmps.getD d undef) w)) ?_ ?_ ?_
  · exact .inr ⟨rfl, rfl, rfl, (Below.refl _ _).drew, fun _ _ => rfl, (fun _ _ _ h => absurd h (by simp)), (fun _ _ _ _ h => absurd h (by simp))⟩
  · intro D a w hI i o ho hD hdep K hK
    rcases hI with ⟨h1, _⟩ | ⟨h1, hdf, hsz, hb, hsl, hcl, hr⟩
    · rw [h1 i (List.getElem?_eq_some_iff.1 ho).1] at hD; cases hD
    · by_cases hi : i = fin
      · subst hi
        rw [hf] at ho
        cases ho
        refine hlast a w hb hdf hsz hsl (fun j oj d hj hne hd => hr j oj d hj ?_ hd) K (fun a' w' hq => hK a' w' (.inl ⟨fun j hj => ?_, hq⟩))
        · obtain ⟨⟨e, he, h3, h4 | ⟨oj2, h5, e2, he2, h6, h7⟩⟩, _⟩ := finB_at hfin hj hf hne
          · rw [← h4]; exact hdep e he h3
          · rw [← h7]; exact hcl e.on oj2 h5 (hdep e he h3) e2 he2 h6
        · by_cases hji : j = i
          · rw [hji]; exact add1_eq
          · rw [add1_ne hji]
            obtain ⟨⟨e, he, h3, h4 | ⟨oj2, h5, e2, he2, h6, h7⟩⟩, _⟩ := finB_at hfin (List.getElem?_eq_getElem hj) hf hji
            · rw [← h4]; exact hdep e he h3
            · rw [← h7]; exact hcl e.on oj2 h5 (hdep e he h3) e2 he2 h6
      · obtain ⟨_, d, hd, hdn, hap⟩ := finB_at hfin ho hf hi
        have hds : d < a.tmps.size := by rw [hsz]; exact hdn
        refine hop i o ho hi a w hb hsl (fun j oj d' hj hd' ⟨e, he, h3, h4⟩ => hr j oj d' hj (by rw [← h4]; exact hdep e he h3) hd') K (fun v w' hb' hR => hK _ _ (.inr ⟨?_, ?_, ?_, ?_, ?_, ?_, ?_⟩))
        · rw [add1_ne (fun e => hi e.symm)]; exact h1
        · rw [put_df]; exact hdf
        · rw [put_sz]; exact hsz
        · exact hb.trans (hb'.mono hb.size)
        · intro t ht
          rw [hd, put_of hds (fun e => by
            subst e
            have : wrB l t = true := List.any_eq_true.2 ⟨o, List.mem_of_getElem? ho, by simp [hd]⟩
            rw [this] at ht; cases ht)]
          exact hsl t ht
        · intro j oj hj hDj e he h3
          by_cases hji : j = i
          · subst hji
            rw [ho] at hj
            cases hj
            exact add1_mono (hdep e he h3)
          · rw [add1_ne hji] at hDj
            exact add1_mono (hcl j oj hj hDj e he h3)
        · intro j oj d' hj hDj hd'
          by_cases hji : j = i
          · subst hji
            rw [ho] at hj
            cases hj
            rw [hd] at hd'
            cases hd'
            rw [hd, put_at hds]
            exact hR
          · rw [add1_ne hji] at hDj
            rw [hd, put_of hds (fun e => hap j oj hj hji (by rw [hd', e]))]
            exact hmono _ _ _ _ (hr j oj d' hj hDj hd') hb'
  · intro D a w hI hall
    rcases hI with ⟨_, h⟩ | ⟨h1, _⟩
    · exact h
    · rw [hall fin (List.getElem?_eq_some_iff.1 hf).1] at h1; cases h1
theorem put_fold (a : Act) : ∀ (ds : List Nat) (s : Act) (t : Nat), s.tmps.size = a.tmps.size → (ds.foldl (fun s d => s.put (some d) (a.tmps.getD d undef)) s).tmps.getD t undef = if t ∈ ds then a.tmps.getD t undef else s.tmps.getD t undef
  | [], s, t, _ => by simp
  | d :: r, s, t, hs => by
    rw [List.foldl_cons, put_fold a r _ t (by rw [put_sz]; exact hs)]
    by_cases h1 : t ∈ r
    · simp [h1]
    · rw [if_neg h1]
      by_cases h2 : t = d
      · subst h2
        rw [if_pos (by simp)]
        by_cases h3 : t < s.tmps.size
        · rw [put_at h3]
        · have e1 : (s.put (some t) (a.tmps.getD t undef)).tmps.getD t undef = undef := by
            rw [Array.getD_eq_getD_getElem?, Array.getElem?_eq_none (by rw [put_sz]; omega)]; rfl
          have e2 : a.tmps.getD t undef = undef := by
            rw [Array.getD_eq_getD_getElem?, Array.getElem?_eq_none (by omega)]; rfl
          rw [e1, e2]
      · rw [if_neg (by simp [h1, h2])]
        by_cases h3 : d < s.tmps.size
        · exact put_of h3 h2
        · unfold Act.put
          simp only
          rw [Array.setIfInBounds_eq_of_size_le (by omega)]
theorem fold_sz (a : Act) : ∀ (ds : List Nat) (s : Act), (ds.foldl (fun s d => s.put (some d) (a.tmps.getD d undef)) s).tmps.size = s.tmps.size ∧ (ds.foldl (fun s d => s.put (some d) (a.tmps.getD d undef)) s).defers = s.defers
  | [], s => ⟨rfl, rfl⟩
  | d :: r, s => by
    obtain ⟨h1, h2⟩ := fold_sz a r (s.put (some d) (a.tmps.getD d undef))
    rw [List.foldl_cons]
    exact ⟨h1.trans (put_sz _ _ _), h2.trans (put_df _ _ _)⟩
theorem act_puts {l : List Oper} {a a0 : Act} (hd : a.defers = a0.defers) (hs : a.tmps.size = a0.tmps.size) (h : ∀ t, wrB l t = false → a.tmps.getD t undef = a0.tmps.getD t undef) : a = (l.filterMap (·.dst)).foldl (fun s d => s.put (some d) (a.tmps.getD d undef)) a0 := by
  obtain ⟨h1, h2⟩ := fold_sz a (l.filterMap (·.dst)) a0
  have hg : ∀ t, a.tmps.getD t undef = ((l.filterMap (·.dst)).foldl (fun s d => s.put (some d) (a.tmps.getD d undef)) a0).tmps.getD t undef := fun t => by
    rw [put_fold a _ a0 t hs.symm]
    split
    · rfl
    · rename_i hn
      refine h t ?_
      unfold wrB
      rw [List.any_eq_false]
      intro o ho e
      exact hn (List.mem_filterMap.2 ⟨o, ho, by simpa using e⟩)
  generalize (l.filterMap (·.dst)).foldl (fun s d => s.put (some d) (a.tmps.getD d undef)) a0 = b at *
  obtain ⟨ta, da⟩ := a
  obtain ⟨tb, db⟩ := b
  have e1 : da = db := hd.trans h2.symm
  have e2 : ta.size = tb.size := hs.trans h1.symm
  have e3 : ta = tb := by
    apply Array.ext
    · exact e2
    · intro i hi1 hi2
      have := hg i
      simpa [Array.getD, hi1, hi2] using this
  rw [e1, e3]
theorem wp_skp {o : Oper} {a : Act} {w w' : World} {K : Act → World → Prop} (h : (execOp a.eval o).run P w = .ok .skip w') (hk : K (a.put o.dst undef) w') : o.wp P a w K Q := by
  unfold Oper.wp; rw [h]; exact hk
theorem oper_any {o : Oper} {a : Act} {w : World} {K : Act → World → Prop} (f : FuncId) (xs : Array Operand) (tys : Array TypeId) (ho : o.op = .call { callee := .value (.func f), args := xs, argTypes := tys }) (vs : Array Value) (hv : xs.map a.eval = vs) (he : ∀ w, (callFunc f vs).run P w = .ok (.enter f vs) w) {J : Value → World → Prop}
    (hc : Calls P f vs w fun e w' => ∃ r, e = .returned r ∧ J r w') (h : ∀ r w', J r w' → K (a.put o.dst r) w') : o.wp P a w K Q := by
  have hev : a.eval (.func f) = .func (.func f) #[] #[] := rfl
  unfold Oper.wp execOp
  simp only [ho, resolve, invoke, Sem.run_bind, hv, hev, Deferred.ofValue, Sem.run_pure, Result.andThen_ok, Array.append_empty, Array.empty_append, he, Oper.upon_enter]
  exact hc.mono (by rintro e w' ⟨r, rfl, hJ⟩; exact h r w' hJ)
end
theorem Ls.rows {Pc : List Value → Prop} {SL EL : TypeId} {z g B qr qa qb : Nat} {w0 w : World} {v : Value} {cs : List (List Value)} (h : Ls Pc SL EL z g B qr qa qb w0 v cs w) {F : Nat → Prop} (hF : ∀ k, B ≤ k → F k) : RwA F w EL z v cs := by
  refine ⟨fun c hc => (h.ln c hc).1, ?_⟩
  obtain ⟨hl, ⟨h1, h2⟩ | ⟨g', cap, cur, h1, hB, hg, hcap, hm, hcs, htk⟩⟩ := h.row
  · exact .inl ⟨none, 0, h1, List.length_eq_zero_iff.1 h2⟩
  · refine .inr ⟨g', 0, cap, cur, (EL, (0, 0)), h1, hF g' hB, hg, ?_, by simpa using htk⟩
    rw [hcs, Nat.zero_add]
    exact Nat.mul_le_mul_right z hcap
theorem push3 (H : Array Obj) (x y z : Obj) : (((H.push x).push y).push z)[H.size]? = some x ∧ (((H.push x).push y).push z)[H.size + 1]? = some y ∧ (((H.push x).push y).push z)[H.size + 2]? = some z := by
  refine ⟨?_, ?_, ?_⟩
  · rw [Array.getElem?_push, if_neg (by simp; omega), Array.getElem?_push, if_neg (by simp), Array.getElem?_push, if_pos rfl]
  · rw [Array.getElem?_push, if_neg (by simp), Array.getElem?_push, if_pos (by simp)]
  · rw [Array.getElem?_push, if_pos (by simp)]
def LiV (g B qr qa qb : Nat) (w0 : World) (xs : List T) (w : World) : Prop := ∃ v cs, Ls (fun _ => True) 52 55 5 g B qr qa qb w0 v cs w ∧ cs.length = xs.length ∧ ∀ (j : Nat) (t : T) (c : List Value), xs[j]? = some t → cs[j]? = some c → VA (fun k => B ≤ k ∧ some k ≠ v.ownBlock) w t c
def LjV (g B qr qa qb : Nat) (w0 : World) (w : World) : Prop := ∃ v cs, Ls (fun _ => True) 52 55 5 g B qr qa qb w0 v cs w
theorem Lq.gB {g B qr qa qb : Nat} {w0 : World} (q : Lq g B qr qa qb w0) : g < B := by have := q.g0; have := q.r0; have := q.r1; omega
theorem LiV.step {g B qr qa qb : Nat} {w0 w w' : World} {xs : List T} (q : Lq g B qr qa qb w0) (h : LiV g B qr qa qb w0 xs w) (k : Kg g w w') : LiV g B qr qa qb w0 xs w' := by
  obtain ⟨v, cs, hL, hl, hv⟩ := h
  have := q.gB
  exact ⟨v, cs, hL.step q k, hl, fun j t c h1 h2 => (hv j t c h1 h2).frame (fun k' hk hs => k.block k' hs (by have := hk.1; omega)) (fun _ hk _ => hk)⟩
theorem snoc_get {α : Type} {l : List α} {x y : α} {j : Nat} (h : (l ++ [x])[j]? = some y) : (l[j]? = some y) ∨ (j = l.length ∧ y = x) := by
  rcases Nat.lt_or_ge j l.length with h1 | h1
  · left; rw [List.getElem?_append_left h1] at h; exact h
  · right
    rw [List.getElem?_append_right h1] at h
    have : j - l.length = 0 := by
      rcases Nat.eq_zero_or_pos (j - l.length) with e | e
      · exact e
      · rw [List.getElem?_eq_none (by simp; omega)] at h; cases h
    rw [this] at h
    simp at h
    exact ⟨by omega, h.symm⟩
theorem list1_o {one : List UInt8 → Option (T × List UInt8)} {g B qr qa qb : Nat} {w0 : World} {d : Int} {N : Nat} (hN : N ≤ 1000000) (q : Lq g B qr qa qb w0)
    (hone : ∀ m w1, Rd w1 g m d → Ev w1 → m.length ≤ N → Calls Tryz.prog 33 #[.pointer (some ⟨g, 0, none⟩)] w1 (AnV g d w1 (one m)))
    {xs : List T} {m : List UInt8} {w : World} (h : Rd w g m d) (hI : LiV g B qr qa qb w0 xs w) (hl : xs.length + m.length ≤ N) :
    Calls Tryz.prog 153 #[.pointer (some ⟨qr, 0, none⟩), .pointer (some ⟨qb, 0, none⟩)] w fun ed w' => ∃ m', ed = .returned (.bool (one m).isSome) ∧ Rd w' g m' d ∧ (∀ q, q < w.heap.size → q ≠ g → Bx w q g → Bx w' q g) ∧ LjV g B qr qa qb w0 w' ∧ ∀ x r, one m = some (x, r) → m' = r ∧ LiV g B qr qa qb w0 (xs ++ [x]) w' := by
  obtain ⟨v, cs, hL, hcl, hv⟩ := hI
  refine (list1_d (o := one m) q hL (by omega) ((hone m w h hL.ev (by omega)).mono fun e w' h => ⟨h, fun _ _ _ => trivial⟩)).mono ?_
  rintro e w' ⟨m', v', c, rfl, hr, hL', hold, hbx, hnew⟩
  refine ⟨m', rfl, hr, fun q' _ hq' hb => hbx q' hq' hb, ⟨v', _, hL'⟩, fun x r hx => ?_⟩
  obtain ⟨e1, e2⟩ := hnew x r hx
  refine ⟨e1, v', cs ++ [c], hL', by simp [hcl], fun j t c' h1 h2 => ?_⟩
  rcases snoc_get h1 with h3 | ⟨h3, rfl⟩
  · rcases snoc_get h2 with h4 | ⟨h4, rfl⟩
    · exact hold t c' (hv j t c' h3 h4)
    · have := (List.getElem?_eq_some_iff.1 h3).1
      omega
  · rcases snoc_get h2 with h4 | ⟨h4, rfl⟩
    · have := (List.getElem?_eq_some_iff.1 h4).1
      omega
    · exact e2
def lsV (one : List UInt8 → Option (T × List UInt8)) (d : Nat) (l : List UInt8) : Option (T × List UInt8) := (rwD one 91 93 d l).map fun x => (.mk 4 0 [] x.1 [], x.2)
set_option maxHeartbeats 8000000 in
set_option maxRecDepth 100000 in
theorem list_d {one : List UInt8 → Option (T × List UInt8)} (hle : ∀ l x r, one l = some (x, r) → r.length ≤ l.length) {w : World} {g : Nat} {l : List UInt8} {d : Nat} (hd : d ≤ 8) (h : Rd w g l (d : Nat)) (hT : Ev w) (hg : 7 < g) (hN : l.length ≤ 1000000)
    (hone : d < 8 → ∀ m w1, Rd w1 g m ((d : Int) + 1) → Ev w1 → m.length ≤ l.length → Calls Tryz.prog 33 #[.pointer (some ⟨g, 0, none⟩)] w1 (AnV g ((d : Int) + 1) w1 (one m))) :
    Calls Tryz.prog 103 #[.pointer (some ⟨g, 0, none⟩)] w (AnV g (d : Nat) w (lsV one d l)) := by
  have hgl := h.lt
  obtain ⟨W, hW⟩ : ∃ W, W = ((w.alloc (.cells #[.pointer (some ⟨g, 0, none⟩)] 93)).alloc (.cells #[.int .i64 0, .int .i64 0, .string ⟨#[]⟩, .slice none 0 0, .slice none 0 0] 55)).alloc (.cells #[.slice none 0 0] 52) := ⟨_, rfl⟩
  have hq : Lq g (w.heap.size + 3) w.heap.size (w.heap.size + 1) (w.heap.size + 2) w := ⟨hg, hgl, by omega, by omega, by omega, by omega, by omega, by omega, by omega, by omega⟩
  have kW : Kg g w W := by rw [hW]; exact ((Kg.alloc w _).trans (Kg.alloc _ _)).trans (Kg.alloc _ _)
  have rW : Rd W g l (d : Nat) := by rw [hW]; exact ((h.alloc _).alloc _).alloc _
  have hx : W.heap = ((w.heap.push (.cells #[.pointer (some ⟨g, 0, none⟩)] 93)).push (.cells #[.int .i64 0, .int .i64 0, .string ⟨#[]⟩, .slice none 0 0, .slice none 0 0] 55)).push (.cells #[.slice none 0 0] 52) := by rw [hW]; rfl
  have hS : LiV g (w.heap.size + 3) w.heap.size (w.heap.size + 1) (w.heap.size + 2) w [] W := by
    refine ⟨.slice none 0 0, [], ⟨?_, kW, hT.kg kW hg hgl, ?_, ?_, ⟨rfl, .inl ⟨rfl, rfl⟩⟩, by rw [hx]; simp, by simp⟩, rfl, by simp⟩
    · show W.heap[w.heap.size]? = _
      rw [hx]; exact (push3 _ _ _ _).1
    · rw [hx]; exact (push3 _ _ _ _).2.1
    · rw [hx]; exact (push3 _ _ _ _).2.2
  have hrow := row_d (K := 153) (cap := #[.pointer (some ⟨w.heap.size, 0, none⟩), .pointer (some ⟨w.heap.size + 2, 0, none⟩)]) (I := LiV g (w.heap.size + 3) w.heap.size (w.heap.size + 1) (w.heap.size + 2) w) (J := LjV g (w.heap.size + 3) w.heap.size (w.heap.size + 1) (w.heap.size + 2) w) (b := 91) (e := 93)
    (fun args w => by kernel_rfl) (fun xs w w' h k => h.step hq k) (fun w w' h k => by obtain ⟨v, cs, h⟩ := h; exact ⟨v, cs, h.step hq k⟩) (fun xs w h => by obtain ⟨v, cs, h, _⟩ := h; exact ⟨v, cs, h⟩) hle hd rW hS (fun hd8 xs m w h1 h2 h3 => list1_o hN hq (hone hd8) h1 h2 h3)
  have hl0 : (lsV one d l).isSome = (rwD one 91 93 d l).isSome := by unfold lsV; cases rwD one 91 93 d l <;> rfl
  have hl1 : ∀ t r, lsV one d l = some (t, r) → ∃ xs, rwD one 91 93 d l = some (xs, r) ∧ t = .mk 4 0 [] xs [] := fun t r e => by
    unfold lsV at e
    cases hq : rwD one 91 93 d l with
    | none => rw [hq] at e; cases e
    | some y => rw [hq] at e; cases e; exact ⟨y.1, rfl, rfl⟩
  generalize rwD one 91 93 d l = o at *
  generalize lsV one d l = o2 at *
  have ld1 : W.cell? ⟨w.heap.size, 0, none⟩ = some (.pointer (some ⟨g, 0, none⟩)) := by
    obtain ⟨v, cs, hL, _⟩ := hS
    exact hL.bx.cell
  replace hS := hide1 hS
  replace kW := hide1 kW
  replace rW := hide1 rW
  replace hx := hide1 hx
  replace hl1 := hide1 hl1
  clear hone hle
  subst hW
  go_enter Tryz.func103, Tryz.ntmps103
  go_wp2_with fail
  refine hrow.mono ?_
  rintro e w1 ⟨m, rfl, r1, hJ, hI⟩
  obtain ⟨v, cs, hL, hvs⟩ : ∃ v cs, Ls (fun _ => True) 52 55 5 g (w.heap.size + 3) w.heap.size (w.heap.size + 1) (w.heap.size + 2) w v cs w1 ∧ ∀ xs r, o = some (xs, r) → m = r ∧ cs.length = xs.length ∧ ∀ (j : Nat) (t : T) (c : List Value), xs[j]? = some t → cs[j]? = some c → VA (fun k => w.heap.size + 3 ≤ k ∧ some k ≠ v.ownBlock) w1 t c := by
    cases ho : o with
    | none =>
      obtain ⟨v, cs, hL⟩ := hJ
      exact ⟨v, cs, hL, fun _ _ e => nomatch e⟩
    | some y =>
      obtain ⟨xs, r⟩ := y
      obtain ⟨e1, v, cs, hL, hl, hv⟩ := hI xs r ho
      exact ⟨v, cs, hL, fun xs' r' e => by cases e; exact ⟨e1, hl, hv⟩⟩
  have c2 : w1.cell? ⟨w.heap.size + 2, 0, none⟩ = some v := by simp [World.cell?, hL.bb]
  obtain ⟨va, vn, vc, hve⟩ := (hL.rows (F := fun _ => True) (fun _ _ => trivial)).one
  have hr := hL.an
  have hz := setRow_heap w1 (w.heap.size + 1) _ #[.int .i64 4, .int .i64 0, .string ⟨#[]⟩, v, .slice none 0 0] _ _ hr
  have ha : AnV g (d : Nat) w o2 (.returned (.tuple #[.agg #[.int .i64 4, .int .i64 0, .string ⟨#[]⟩, v, .slice none 0 0], .bool o.isSome])) (w1.setRow (w.heap.size + 1) #[.int .i64 4, .int .i64 0, .string ⟨#[]⟩, v, .slice none 0 0]) := by
    refine AnV.of hl0.symm rfl (by rw [hve]; kernel_rfl) (r1.own (by omega) _) (hL.kg.own (by omega) _) fun t r e => ?_
    obtain ⟨xs, ho, rfl⟩ := hl1.out t r e
    obtain ⟨e1, e2, e3⟩ := hvs xs r ho
    refine ⟨e1, ?_⟩
    have hfr : ∀ k, w.heap.size + 3 ≤ k → k < w1.heap.size → (w1.setRow (w.heap.size + 1) #[.int .i64 4, .int .i64 0, .string ⟨#[]⟩, v, .slice none 0 0]).heap[k]? = w1.heap[k]? := fun k hk _ => setRow_other w1 _ k _ (by omega)
    refine VA.mk (s := []) ((hL.rows (F := fun k => w.heap.size + 3 ≤ k) (fun k hk => hk)).frame (fun k hk hs => hfr k hk hs) (fun k hk _ => by show w.heap.size ≤ k; have : w.heap.size + 3 ≤ k := hk; omega)) .nil e2 rfl (fun j t c h1 h2 => (e3 j t c h1 h2).frame (fun k hk hs => hfr k hk.1 hs) (fun k hk _ => by show w.heap.size ≤ k; have := hk.1; omega)) (by simp) (by simp)
  replace ha := hide1 ha
  replace hz := hide1 hz
  subst hve
  clear hJ hI hL hvs hl1 hrow hS kW rW hx r1 ld1
  replace h := hide1 h
  go_wp2_with (refine wpList_store_row rfl Vt (.tmp 2) (.tmp 10) rfl (w.heap.size + 1) #[.int .i64 4, .int .i64 0, .string ⟨#[]⟩, .slice va vn vc, .slice none 0 0] rfl rfl Vt _ hr (by kernel_rfl) rfl (by kernel_rfl) ?_)
  refine bodyPost_ret (results_vt rfl _ rfl rfl hz.out) rfl ?_
  exact ha.out
theorem ld_sP {w : World} {b o : Nat} {v : Value} (h1 : w.cell? ⟨b, o, none⟩ = some v) : (Instr.loadAt 53 (.pointer (some ⟨b, o, none⟩))).run Tryz.prog w = .ok v w := by
  simp [Instr.loadAt, Instr.sureAddr, go_sem, h1]
theorem ix_sP {g K cap k : Nat} (hk : k < K) (w : World) : (Instr.indexAt 53 (.slice (some ⟨g, 0, none⟩) K cap) (.int .i64 (k : Nat))).run Tryz.prog w = .ok (.pointer (some ⟨g, k * 6, none⟩)) w := by
  simp [Instr.indexAt, go_sem, hk]
  try omega
theorem bs_zP (w : World) : (Instr.buildSlice 53 1 #[(0, .agg #[.string ⟨#[]⟩, .int .i64 0, .int .i64 0, .string ⟨#[]⟩, .slice none 0 0, .slice none 0 0])]).run Tryz.prog w = .ok (.slice (some ⟨w.heap.size, 0, none⟩) 1 1) (w.alloc (.cells #[.string ⟨#[]⟩, .int .i64 0, .int .i64 0, .string ⟨#[]⟩, .slice none 0 0, .slice none 0 0] 69)) := by kernel_rfl
theorem inf_P : (Tryz.prog.info? 69).map (fun i => (i.zero, i.size, i.bytes)) = some (some (.agg #[.string ⟨#[]⟩, .int .i64 0, .int .i64 0, .string ⟨#[]⟩, .slice none 0 0, .slice none 0 0]), 6, 96) := by kernel_rfl
structure ApP (B n qb : Nat) (v0 : Value) (xs0 : List Value) (c : Array Value) (a0 : Act) (w1 : World) (D : Nat → Bool) (a : Act) (w : World) : Prop where
  df : a.defers = a0.defers
  sz : a.tmps.size = a0.tmps.size
  ot : ∀ t, (t < 10 ∨ 15 < t) → a.tmps.getD t undef = a0.tmps.getD t undef
  os : w.os = w1.os
  tp : w.tape = w1.tape
  ou : w.output = w1.output
  hs : w1.heap.size ≤ w.heap.size
  fr : ∀ k, k < w1.heap.size → k ≠ qb → some k ≠ v0.ownBlock → w.heap[k]? = w1.heap[k]?
  d4 : D 4 = true → D 0 = true ∧ D 1 = true ∧ D 2 = true ∧ D 3 = true
  d5 : D 5 = true → D 4 = true
  d6 : D 6 = true → D 5 = true
  d7 : D 7 = true → D 4 = true
  s0 : D 0 = true → a.tmps.getD 10 undef = v0
  s1 : D 1 = true → a.tmps.getD 11 undef = .agg c
  s2 : D 2 = true → a.tmps.getD 12 undef = .int .i64 (n : Nat)
  s3 : D 3 = true → D 4 = false → ∃ g1, a.tmps.getD 13 undef = .slice (some ⟨g1, 0, none⟩) 1 1 ∧ w1.heap.size ≤ g1 ∧ w.heap[g1]? = some (.cells #[.string ⟨#[]⟩, .int .i64 0, .int .i64 0, .string ⟨#[]⟩, .slice none 0 0, .slice none 0 0] 69 (0, 0))
  b4 : D 4 = false → ∀ k, k < w1.heap.size → w.heap[k]? = w1.heap[k]?
  s4 : D 4 = true → ∃ gb cap, a.tmps.getD 14 undef = .slice (some ⟨gb, 0, none⟩) (n + 1) cap ∧ (some gb = v0.ownBlock ∨ w1.heap.size ≤ gb) ∧ w.ownsRow B 69 6 (.slice (some ⟨gb, 0, none⟩) (n + 1) cap) (n + 1) (xs0 ++ (if D 6 = true then c.toList else (#[.string ⟨#[]⟩, .int .i64 0, .int .i64 0, .string ⟨#[]⟩, .slice none 0 0, .slice none 0 0] : Array Value).toList)) ∧ (D 5 = true → a.tmps.getD 15 undef = .pointer (some ⟨gb, n * 6, none⟩)) ∧ w.heap[qb]? = some (.cells #[if D 7 = true then .slice (some ⟨gb, 0, none⟩) (n + 1) cap else v0] 53 (0, 0))
section
variable {B n qb q3 : Nat} {v0 : Value} {xs0 : List Value} {c : Array Value} {a0 : Act} {w1 : World} {D : Nat → Bool} {a : Act} {w : World}
theorem ap0P (h : ApP B n qb v0 xs0 c a0 w1 D a w) (hqb : w1.heap[qb]? = some (.cells #[v0] 53 (0, 0))) (hD : D 0 = false) (hz : 15 < a0.tmps.size) : w.cell? ⟨qb, 0, none⟩ = some v0 ∧ ApP B n qb v0 xs0 c a0 w1 (add1 D 0) (a.put (some 10) v0) w := by
  have hd4 : D 4 = false := by cases e : D 4 with | false => rfl | true => rw [(h.d4 e).1] at hD; cases hD
  have hb := (h.b4 hd4 qb (Array.getElem?_eq_some_iff.1 hqb).1).trans hqb
  have hs := h.sz
  refine ⟨by simp [World.cell?, hb], ?_⟩
  refine ⟨by rw [put_df]; exact h.df, by rw [put_sz]; exact hs, fun t ht => by rw [put_of (by omega) (by omega)]; exact h.ot t ht, h.os, h.tp, h.ou, h.hs, h.fr, ?_, ?_, ?_, ?_, ?_, ?_, ?_, ?_, ?_, ?_⟩
  · intro e; rw [add1_ne (by decide), hd4] at e; cases e
  · intro e; rw [add1_ne (by decide)] at e ⊢; exact h.d5 e
  · intro e; rw [add1_ne (by decide)] at e ⊢; exact h.d6 e
  · intro e; rw [add1_ne (by decide)] at e ⊢; exact h.d7 e
  · intro _; exact put_at (by omega)
  · intro e; rw [add1_ne (by decide)] at e; rw [put_of (by omega) (by decide)]; exact h.s1 e
  · intro e; rw [add1_ne (by decide)] at e; rw [put_of (by omega) (by decide)]; exact h.s2 e
  · intro e e4; rw [add1_ne (by decide)] at e e4; rw [put_of (by omega) (by decide)]; exact h.s3 e e4
  · intro e; rw [add1_ne (by decide)] at e; exact h.b4 e
  · intro e; rw [add1_ne (by decide), hd4] at e; cases e
theorem ap1P (h : ApP B n qb v0 xs0 c a0 w1 D a w) (hq3 : w1.heap[q3]? = some (.cells c 69 (0, 0))) (hD : D 1 = false) (hz : 15 < a0.tmps.size) : w.heap[q3]? = some (.cells c 69 (0, 0)) ∧ ApP B n qb v0 xs0 c a0 w1 (add1 D 1) (a.put (some 11) (.agg c)) w := by
  have hd4 : D 4 = false := by cases e : D 4 with | false => rfl | true => rw [(h.d4 e).2.1] at hD; cases hD
  have hb := (h.b4 hd4 q3 (Array.getElem?_eq_some_iff.1 hq3).1).trans hq3
  have hs := h.sz
  refine ⟨hb, ?_⟩
  refine ⟨by rw [put_df]; exact h.df, by rw [put_sz]; exact hs, fun t ht => by rw [put_of (by omega) (by omega)]; exact h.ot t ht, h.os, h.tp, h.ou, h.hs, h.fr, ?_, ?_, ?_, ?_, ?_, ?_, ?_, ?_, ?_, ?_⟩
  · intro e; rw [add1_ne (by decide), hd4] at e; cases e
  · intro e; rw [add1_ne (by decide)] at e ⊢; exact h.d5 e
  · intro e; rw [add1_ne (by decide)] at e ⊢; exact h.d6 e
  · intro e; rw [add1_ne (by decide)] at e ⊢; exact h.d7 e
  · intro e; rw [add1_ne (by decide)] at e; rw [put_of (by omega) (by decide)]; exact h.s0 e
  · intro _; exact put_at (by omega)
  · intro e; rw [add1_ne (by decide)] at e; rw [put_of (by omega) (by decide)]; exact h.s2 e
  · intro e e4; rw [add1_ne (by decide)] at e e4; rw [put_of (by omega) (by decide)]; exact h.s3 e e4
  · intro e; rw [add1_ne (by decide)] at e; exact h.b4 e
  · intro e; rw [add1_ne (by decide), hd4] at e; cases e
theorem ap2P (h : ApP B n qb v0 xs0 c a0 w1 D a w) (hD : D 2 = false) (hz : 15 < a0.tmps.size) : ApP B n qb v0 xs0 c a0 w1 (add1 D 2) (a.put (some 12) (.int .i64 (n : Nat))) w := by
  have hd4 : D 4 = false := by cases e : D 4 with | false => rfl | true => rw [(h.d4 e).2.2.1] at hD; cases hD
  have hs := h.sz
  refine ⟨by rw [put_df]; exact h.df, by rw [put_sz]; exact hs, fun t ht => by rw [put_of (by omega) (by omega)]; exact h.ot t ht, h.os, h.tp, h.ou, h.hs, h.fr, ?_, ?_, ?_, ?_, ?_, ?_, ?_, ?_, ?_, ?_⟩
  · intro e; rw [add1_ne (by decide), hd4] at e; cases e
  · intro e; rw [add1_ne (by decide)] at e ⊢; exact h.d5 e
  · intro e; rw [add1_ne (by decide)] at e ⊢; exact h.d6 e
  · intro e; rw [add1_ne (by decide)] at e ⊢; exact h.d7 e
  · intro e; rw [add1_ne (by decide)] at e; rw [put_of (by omega) (by decide)]; exact h.s0 e
  · intro e; rw [add1_ne (by decide)] at e; rw [put_of (by omega) (by decide)]; exact h.s1 e
  · intro _; exact put_at (by omega)
  · intro e e4; rw [add1_ne (by decide)] at e e4; rw [put_of (by omega) (by decide)]; exact h.s3 e e4
  · intro e; rw [add1_ne (by decide)] at e; exact h.b4 e
  · intro e; rw [add1_ne (by decide), hd4] at e; cases e
theorem ap3P (h : ApP B n qb v0 xs0 c a0 w1 D a w) (hD : D 3 = false) (hz : 15 < a0.tmps.size) : ApP B n qb v0 xs0 c a0 w1 (add1 D 3) (a.put (some 13) (.slice (some ⟨w.heap.size, 0, none⟩) 1 1)) (w.alloc (.cells #[.string ⟨#[]⟩, .int .i64 0, .int .i64 0, .string ⟨#[]⟩, .slice none 0 0, .slice none 0 0] 69)) := by
  have hd4 : D 4 = false := by cases e : D 4 with | false => rfl | true => rw [(h.d4 e).2.2.2] at hD; cases hD
  have hs := h.sz
  have hh := h.hs
  have ha : ∀ k, k < w1.heap.size → (w.alloc (.cells #[.string ⟨#[]⟩, .int .i64 0, .int .i64 0, .string ⟨#[]⟩, .slice none 0 0, .slice none 0 0] 69)).heap[k]? = w.heap[k]? := fun k hk => by
    show (w.heap.push _)[k]? = _
    rw [Array.getElem?_push, if_neg (by omega)]
  refine ⟨by rw [put_df]; exact h.df, by rw [put_sz]; exact hs, fun t ht => by rw [put_of (by omega) (by omega)]; exact h.ot t ht, h.os, h.tp, h.ou, by simp; omega, fun k hk h1 h2 => (ha k hk).trans (h.fr k hk h1 h2), ?_, ?_, ?_, ?_, ?_, ?_, ?_, ?_, ?_, ?_⟩
  · intro e; rw [add1_ne (by decide), hd4] at e; cases e
  · intro e; rw [add1_ne (by decide)] at e ⊢; exact h.d5 e
  · intro e; rw [add1_ne (by decide)] at e ⊢; exact h.d6 e
  · intro e; rw [add1_ne (by decide)] at e ⊢; exact h.d7 e
  · intro e; rw [add1_ne (by decide)] at e; rw [put_of (by omega) (by decide)]; exact h.s0 e
  · intro e; rw [add1_ne (by decide)] at e; rw [put_of (by omega) (by decide)]; exact h.s1 e
  · intro e; rw [add1_ne (by decide)] at e; rw [put_of (by omega) (by decide)]; exact h.s2 e
  · intro _ _
    refine ⟨w.heap.size, put_at (by omega), hh, ?_⟩
    show (w.heap.push _)[w.heap.size]? = _
    rw [Array.getElem?_push, if_pos rfl]
  · intro e k hk; rw [add1_ne (by decide)] at e; exact (ha k hk).trans (h.b4 e k hk)
  · intro e; rw [add1_ne (by decide), hd4] at e; cases e
theorem ap4P {K : Act → World → Prop} {Q : Exit → Act → World → Prop} {o : Oper} (ho : o.op = .call { callee := .builtin .append, args := #[.tmp 10, .tmp 13], argTypes := #[53, 53] }) (hdst : o.dst = some 14)
    (h : ApP B n qb v0 xs0 c a0 w1 D a w) (hqb : w1.heap[qb]? = some (.cells #[v0] 53 (0, 0))) (hown : w1.ownsRow B 69 6 v0 n xs0) (hB : B ≤ w1.heap.size) (hqB : qb < B) (hn : n ≤ 1000000) (hz : 15 < a0.tmps.size)
    (e0 : D 0 = true) (e1 : D 1 = true) (e2 : D 2 = true) (e3 : D 3 = true) (hD : D 4 = false) (hK : ∀ a' w', ApP B n qb v0 xs0 c a0 w1 (add1 D 4) a' w' → K a' w') : o.wp Tryz.prog a w K Q := by
  obtain ⟨i0, hi, hz0, hz1, hz2⟩ := info_parts inf_P
  obtain ⟨g1, t13, hg1, hc1⟩ := h.s3 e3 hD
  have t10 := h.s0 e0
  have hs := h.sz
  have hownw : w.ownsRow B 69 6 v0 n xs0 := by
    obtain ⟨hl, h1 | ⟨g, cap, cur, hv, hBg, hg, r⟩⟩ := hown
    · exact ⟨hl, .inl h1⟩
    · exact ⟨hl, .inr ⟨g, cap, cur, hv, hBg, (h.b4 hD g (Array.getElem?_eq_some_iff.1 hg).1).trans hg, r⟩⟩
  have hnews : ∀ j u, (#[.string ⟨#[]⟩, .int .i64 0, .int .i64 0, .string ⟨#[]⟩, .slice none 0 0, .slice none 0 0] : Array Value).toList[j]? = some u → w.cell? ((⟨g1, 0, none⟩ : Addr).add j) = some u := by
    intro j u hj
    rw [Addr.add_lit, Nat.zero_add]
    simp only [World.cell?, hc1]
    simpa using hj
  obtain ⟨v', w', hr, h4, h5, h5b, h6⟩ := run_append_own_at (P := Tryz.prog) w B 53 o.type 69 i0 _ 6 96 Tryz.underlying53 hi hz0 hz1 hz2 rfl (by decide) v0 n xs0 hownw ⟨g1, 0, none⟩ 1 1 (#[.string ⟨#[]⟩, .int .i64 0, .int .i64 0, .string ⟨#[]⟩, .slice none 0 0, .slice none 0 0] : Array Value).toList rfl hnews
      (List.all_eq_true.1 (by kernel_rfl : ((#[.string ⟨#[]⟩, .int .i64 0, .int .i64 0, .string ⟨#[]⟩, .slice none 0 0, .slice none 0 0] : Array Value).toList.all (·.oneCell')) = true)) (by unfold maxLen; omega) (by omega) (Nat.le_trans hB h.hs)
  unfold Oper.wp execOp
  have hx0 : a.eval (.tmp 10) = v0 := t10
  have hx1 : a.eval (.tmp 13) = .slice (some ⟨g1, 0, none⟩) 1 1 := t13
  simp only [ho, resolve, invoke, builtin, Sem.run_bind, Sem.run_pure, Result.andThen_ok, List.map_toArray, List.map_cons, List.map_nil, hx0, hx1, hr]
  obtain ⟨gb, cap, rfl⟩ : ∃ gb cap, v' = .slice (some ⟨gb, 0, none⟩) (n + 1) cap := by
    obtain ⟨_, ⟨_, h0⟩ | ⟨g, cap, cur, hv, _⟩⟩ := h4
    · omega
    · exact ⟨g, cap, hv⟩
  show K (a.put o.dst _) w'
  rw [hdst]
  refine hK _ _ ?_
  have hk5 : ∀ k, k < w1.heap.size → some k ≠ v0.ownBlock → w'.heap[k]? = w1.heap[k]? := fun k hk hne => (h5.block k (Nat.lt_of_lt_of_le hk h.hs) hne).trans (h.b4 hD k hk)
  have hqn : some qb ≠ v0.ownBlock := fun e => by
    have := hown.lt qb e.symm
    omega
  refine ⟨by rw [put_df]; exact h.df, by rw [put_sz]; exact hs, fun t ht => by rw [put_of (by omega) (by omega)]; exact h.ot t ht, h5.os.trans h.os, h5.tape.trans h.tp, h5.output.trans h.ou, Nat.le_trans h.hs h5.size, fun k hk _ h2 => hk5 k hk h2, ?_, ?_, ?_, ?_, ?_, ?_, ?_, ?_, ?_, ?_⟩
  · intro _; rw [add1_ne (by decide), add1_ne (by decide), add1_ne (by decide), add1_ne (by decide)]; exact ⟨e0, e1, e2, e3⟩
  · intro _; exact add1_eq
  · intro e; rw [add1_ne (by decide)] at e ⊢; exact h.d6 e
  · intro _; exact add1_eq
  · intro _; rw [put_of (by omega) (by decide)]; exact t10
  · intro _; rw [put_of (by omega) (by decide)]; exact h.s1 e1
  · intro _; rw [put_of (by omega) (by decide)]; exact h.s2 e2
  · intro _ e; rw [add1_eq] at e; cases e
  · intro e; rw [add1_eq] at e; cases e
  · intro _
    have f5 : D 5 = false := by cases e : D 5 with | false => rfl | true => rw [h.d5 e] at hD; cases hD
    have f6 : D 6 = false := by cases e : D 6 with | false => rfl | true => rw [h.d6 e] at f5; cases f5
    have f7 : D 7 = false := by cases e : D 7 with | false => rfl | true => rw [h.d7 e] at hD; cases hD
    refine ⟨gb, cap, put_at (by omega), ?_, ?_, ?_, ?_⟩
    · rcases h6 with e | e
      · exact .inl e
      · right
        have : some gb = some w.heap.size := e
        have := h.hs
        simp at *
        omega
    · rw [add1_ne (by decide), f6, if_neg (by simp)]; exact h4
    · intro e; rw [add1_ne (by decide), f5] at e; cases e
    · rw [add1_ne (by decide), f7, if_neg (by simp)]; exact (hk5 qb (by omega) hqn).trans hqb
theorem ap5P (h : ApP B n qb v0 xs0 c a0 w1 D a w) (e4 : D 4 = true) (hz : 15 < a0.tmps.size) : ∃ gb cap, a.tmps.getD 14 undef = .slice (some ⟨gb, 0, none⟩) (n + 1) cap ∧ ApP B n qb v0 xs0 c a0 w1 (add1 D 5) (a.put (some 15) (.pointer (some ⟨gb, n * 6, none⟩))) w := by
  obtain ⟨gb, cap, t14, h1, h2, h3, h4⟩ := h.s4 e4
  have hs := h.sz
  refine ⟨gb, cap, t14, ?_⟩
  refine ⟨by rw [put_df]; exact h.df, by rw [put_sz]; exact hs, fun t ht => by rw [put_of (by omega) (by omega)]; exact h.ot t ht, h.os, h.tp, h.ou, h.hs, h.fr, ?_, ?_, ?_, ?_, ?_, ?_, ?_, ?_, ?_, ?_⟩
  · intro _; rw [add1_ne (by decide), add1_ne (by decide), add1_ne (by decide), add1_ne (by decide)]; exact h.d4 e4
  · intro _; rw [add1_ne (by decide)]; exact e4
  · intro _; exact add1_eq
  · intro _; rw [add1_ne (by decide)]; exact e4
  · intro e; rw [add1_ne (by decide)] at e; rw [put_of (by omega) (by decide)]; exact h.s0 e
  · intro e; rw [add1_ne (by decide)] at e; rw [put_of (by omega) (by decide)]; exact h.s1 e
  · intro e; rw [add1_ne (by decide)] at e; rw [put_of (by omega) (by decide)]; exact h.s2 e
  · intro _ e; rw [add1_ne (by decide), e4] at e; cases e
  · intro e; rw [add1_ne (by decide), e4] at e; cases e
  · intro _
    refine ⟨gb, cap, by rw [put_of (by omega) (by decide)]; exact t14, h1, ?_, fun _ => put_at (by omega), ?_⟩
    · rw [add1_ne (by decide)]; exact h2
    · rw [add1_ne (by decide)]; exact h4
theorem st_eP {w : World} {gb o : Nat} {cur c : Array Value} {t : TypeId} (hg : w.heap[gb]? = some (.cells cur t (0, 0))) (hc : c.size = 6) (hfit : o + 6 ≤ cur.size) (h1 : c.all (·.oneCell') = true) :
    (Instr.storeAt 69 (.pointer (some ⟨gb, o, none⟩)) (.agg c)).run Tryz.prog w = .ok () (w.setRow gb (cur.toList.take o ++ c.toList ++ cur.toList.drop (o + 6)).toArray) := by
  have hst := run_storeCells_at Tryz.prog gb o t c.toList 0 cur w hg (by simp [hc]; exact hfit) (fun v hv => Array.all_eq_true_iff_forall_mem.1 h1 v (by simpa using hv))
  obtain ⟨i0, hi, hz0, hz1, hz2⟩ := info_parts inf_P
  have hs : c.size = i0.size := by rw [hc, hz1]
  have hl : c.toList.length = 6 := by simpa using hc
  rw [hl] at hst
  simp only [Nat.add_zero] at hst
  simp only [Instr.storeAt, Instr.sureAddr, Sem.run_bind, Sem.run_pure, Result.andThen_ok]
  simp [storeVar, sizeOf, typeInfo, hi, Value.cells, hs, hst]
theorem own_stP {w : World} {B gb n cap : Nat} {xs0 zs : List Value} {c : Array Value} (h : w.ownsRow B 69 6 (.slice (some ⟨gb, 0, none⟩) (n + 1) cap) (n + 1) (xs0 ++ zs)) (hx : xs0.length = n * 6) (hc : c.size = 6) (h1 : c.all (·.oneCell') = true) :
    ∃ w', (Instr.storeAt 69 (.pointer (some ⟨gb, n * 6, none⟩)) (.agg c)).run Tryz.prog w = .ok () w' ∧ w'.ownsRow B 69 6 (.slice (some ⟨gb, 0, none⟩) (n + 1) cap) (n + 1) (xs0 ++ c.toList) ∧ (∀ k, k ≠ gb → w'.heap[k]? = w.heap[k]?) ∧ w'.os = w.os ∧ w'.tape = w.tape ∧ w'.output = w.output ∧ w'.heap.size = w.heap.size := by
  obtain ⟨hl, ⟨_, h0⟩ | ⟨g, cap', cur, hv, hB, hg, hcap, hm, hcs, htk⟩⟩ := h
  · omega
  · cases hv
    have hcl : c.toList.length = 6 := by simpa using hc
    have hfit : n * 6 + 6 ≤ cur.size := by rw [hcs]; omega
    refine ⟨_, st_eP hg hc hfit h1, ⟨?_, .inr ⟨gb, cap, _, rfl, hB, setRow_heap w gb _ _ _ _ hg, hcap, hm, ?_, ?_⟩⟩, fun k hk => setRow_other w gb k _ hk, rfl, rfl, rfl, by simp [World.setRow]⟩
    · rw [List.length_append, hx, hcl]; omega
    · simp [hcl]; omega
    · have e1 : cur.toList.take (n * 6) = xs0 := by
        have := congrArg (List.take (n * 6)) htk
        rw [List.take_take, Nat.min_eq_left (by omega), List.take_left' hx] at this
        exact this
      rw [List.append_assoc]
      show (cur.toList.take (n * 6) ++ (c.toList ++ cur.toList.drop (n * 6 + 6))).take ((n + 1) * 6) = xs0 ++ c.toList
      rw [e1, ← List.append_assoc, List.take_left' (by rw [List.length_append, hx, hcl]; omega)]
theorem ap6P {K : Act → World → Prop} {Q : Exit → Act → World → Prop} {o : Oper} (ho : o.op = .store 69 (.tmp 15) (.tmp 11)) (hdst : o.dst = none)
    (h : ApP B n qb v0 xs0 c a0 w1 D a w) (hx : xs0.length = n * 6) (hc : c.size = 6) (h1 : c.all (·.oneCell') = true) (hqB : qb < B) (hown : w1.ownsRow B 69 6 v0 n xs0) (hB : B ≤ w1.heap.size)
    (e1 : D 1 = true) (e4 : D 4 = true) (e5 : D 5 = true) (hK : ∀ a' w', ApP B n qb v0 xs0 c a0 w1 (add1 D 6) a' w' → K a' w') : o.wp Tryz.prog a w K Q := by
  obtain ⟨gb, cap, t14, g1, g2, g3, g4⟩ := h.s4 e4
  obtain ⟨w', hr, hrow, hk, ho1, ho2, ho3, hsz⟩ := own_stP g2 hx hc h1
  have hx0 : a.eval (.tmp 15) = .pointer (some ⟨gb, n * 6, none⟩) := g3 e5
  have hx1 : a.eval (.tmp 11) = .agg c := h.s1 e1
  have hBg : B ≤ gb := by
    rcases g1 with e | e
    · exact (hown.lt gb e.symm).1
    · omega
  unfold Oper.wp execOp
  simp only [ho, hx0, hx1, Sem.run_bind, hr, Result.andThen_ok, Sem.run_pure]
  show K (a.put o.dst _) w'
  rw [hdst]
  refine hK _ _ ?_
  refine ⟨h.df, h.sz, h.ot, ho1.trans h.os, ho2.trans h.tp, ho3.trans h.ou, by rw [hsz]; exact h.hs, fun k hk1 hk2 hk3 => (hk k (fun e => by
      subst e
      rcases g1 with e | e
      · exact hk3 e
      · omega)).trans (h.fr k hk1 hk2 hk3), ?_, ?_, ?_, ?_, ?_, ?_, ?_, ?_, ?_, ?_⟩
  · intro _; rw [add1_ne (by decide), add1_ne (by decide), add1_ne (by decide), add1_ne (by decide)]; exact h.d4 e4
  · intro _; rw [add1_ne (by decide)]; exact e4
  · intro _; rw [add1_ne (by decide)]; exact e5
  · intro _; rw [add1_ne (by decide)]; exact e4
  · intro e; rw [add1_ne (by decide)] at e; exact h.s0 e
  · intro e; rw [add1_ne (by decide)] at e; exact h.s1 e
  · intro e; rw [add1_ne (by decide)] at e; exact h.s2 e
  · intro _ e; rw [add1_ne (by decide), e4] at e; cases e
  · intro e; rw [add1_ne (by decide), e4] at e; cases e
  · intro _
    refine ⟨gb, cap, t14, g1, ?_, fun _ => g3 e5, ?_⟩
    · rw [add1_eq, if_pos rfl]; exact hrow
    · rw [add1_ne (by decide)]; exact (hk qb (by omega)).trans g4
theorem ap7P {K : Act → World → Prop} {Q : Exit → Act → World → Prop} {o : Oper} (ho : o.op = .store 53 (.tmp 1) (.tmp 14)) (hdst : o.dst = none)
    (h : ApP B n qb v0 xs0 c a0 w1 D a w) (ht1 : a0.tmps.getD 1 undef = .pointer (some ⟨qb, 0, none⟩)) (hqB : qb < B) (hown : w1.ownsRow B 69 6 v0 n xs0) (hB : B ≤ w1.heap.size)
    (e4 : D 4 = true) (hK : ∀ a' w', ApP B n qb v0 xs0 c a0 w1 (add1 D 7) a' w' → K a' w') : o.wp Tryz.prog a w K Q := by
  obtain ⟨gb, cap, t14, g1, g2, g3, g4⟩ := h.s4 e4
  have hx0 : a.eval (.tmp 1) = .pointer (some ⟨qb, 0, none⟩) := (h.ot 1 (by decide)).trans ht1
  have hx1 : a.eval (.tmp 14) = .slice (some ⟨gb, 0, none⟩) (n + 1) cap := t14
  have hBg : B ≤ gb := by
    rcases g1 with e | e
    · exact (hown.lt gb e.symm).1
    · omega
  have hc : w.cell? ⟨qb, 0, none⟩ = some (if D 7 = true then .slice (some ⟨gb, 0, none⟩) (n + 1) cap else v0) := by simp [World.cell?, g4]
  have hf : w.frozen? ⟨qb, 0, none⟩ = false := by simp [World.frozen?, g4]
  have hr : (Instr.storeAt 53 (.pointer (some ⟨qb, 0, none⟩)) (.slice (some ⟨gb, 0, none⟩) (n + 1) cap)).run Tryz.prog w = .ok () (w.setRow qb #[.slice (some ⟨gb, 0, none⟩) (n + 1) cap]) := by
    have e : w.setCell ⟨qb, 0, none⟩ (.slice (some ⟨gb, 0, none⟩) (n + 1) cap) = w.setRow qb #[.slice (some ⟨gb, 0, none⟩) (n + 1) cap] := by
      rw [setCell_eq_setRow w qb 0 _ _ (0, 0) _ g4]; rfl
    rw [← e]
    simp [Instr.storeAt, Instr.sureAddr, go_sem, hc, hf]
  unfold Oper.wp execOp
  simp only [ho, hx0, hx1, Sem.run_bind, hr, Result.andThen_ok, Sem.run_pure]
  show K (a.put o.dst _) _
  rw [hdst]
  refine hK _ _ ?_
  refine ⟨h.df, h.sz, h.ot, h.os, h.tp, h.ou, by simpa [World.setRow] using h.hs, fun k hk1 hk2 hk3 => (setRow_other w qb k _ hk2).trans (h.fr k hk1 hk2 hk3), ?_, ?_, ?_, ?_, ?_, ?_, ?_, ?_, ?_, ?_⟩
  · intro _; rw [add1_ne (by decide), add1_ne (by decide), add1_ne (by decide), add1_ne (by decide)]; exact h.d4 e4
  · intro _; rw [add1_ne (by decide)]; exact e4
  · intro e; rw [add1_ne (by decide)] at e ⊢; exact h.d6 e
  · intro _; rw [add1_ne (by decide)]; exact e4
  · intro e; rw [add1_ne (by decide)] at e; exact h.s0 e
  · intro e; rw [add1_ne (by decide)] at e; exact h.s1 e
  · intro e; rw [add1_ne (by decide)] at e; exact h.s2 e
  · intro _ e; rw [add1_ne (by decide), e4] at e; cases e
  · intro e; rw [add1_ne (by decide), e4] at e; cases e
  · intro _
    refine ⟨gb, cap, t14, g1, ?_, fun e => g3 (by rw [add1_ne (by decide)] at e; exact e), ?_⟩
    · rw [add1_ne (by decide)]
      obtain ⟨hl, ⟨hv, _⟩ | ⟨g, cap', cur, hv, hB', hg, r⟩⟩ := g2
      · cases hv
      · cases hv
        exact ⟨hl, .inr ⟨gb, cap, cur, rfl, hB', (setRow_other w qb gb _ (by omega)).trans hg, r⟩⟩
    · rw [add1_eq, if_pos rfl]; exact setRow_heap w qb _ _ _ _ g4
end
theorem ldEP {w : World} {q3 : Nat} {c : Array Value} (h : w.heap[q3]? = some (.cells c 69 (0, 0))) (hc : c.size = 6) : (Instr.loadAt 69 (.pointer (some ⟨q3, 0, none⟩))).run Tryz.prog w = .ok (.agg c) w := by
  have hl := run_loadVar_row (P := Tryz.prog) w q3 69 69 c (0, 0) _ h Tryz.underlying69 (by rfl) (by rw [hc]; kernel_rfl)
  simp [Instr.loadAt, Instr.sureAddr, hl]
theorem lenP {w : World} {a : Option Addr} {n cap : Nat} : (Builtin.len_ #[53] 3 #[.slice a n cap]).run Tryz.prog w = .ok (.int .i64 (n : Nat)) w := by
  simp [Builtin.len_, go_sem]
theorem arr17P (tm : Array Value) (h : tm.size = 17) : tm = #[tm.getD 0 undef, tm.getD 1 undef, tm.getD 2 undef, tm.getD 3 undef, tm.getD 4 undef, tm.getD 5 undef, tm.getD 6 undef, tm.getD 7 undef, tm.getD 8 undef, tm.getD 9 undef, tm.getD 10 undef, tm.getD 11 undef, tm.getD 12 undef, tm.getD 13 undef, tm.getD 14 undef, tm.getD 15 undef, tm.getD 16 undef] := by
  apply Array.ext
  · exact h
  · intro i h1 h2
    have hi : i < 17 := by omega
    match i, hi with
    | 0, _ | 1, _ | 2, _ | 3, _ | 4, _ | 5, _ | 6, _ | 7, _ | 8, _ | 9, _ | 10, _ | 11, _ | 12, _ | 13, _ | 14, _ | 15, _ | 16, _ => simp [Array.getD, h]
    | _ + 17, hi => exact absurd hi (by omega)
def AnEP (Pc : List Value → Prop) (g B qr qa qb : Nat) (w0 : World) (d : Int) (v : Value) (cs : List (List Value)) (w : World) (o : Option ((List UInt8 × T) × List UInt8)) (ed : Ending) (w' : World) : Prop :=
  ∃ m' v' c, ed = .returned (.bool o.isSome) ∧ Rd w' g m' d ∧ Ls Pc 53 69 6 g B qr qa qb w0 v' (cs ++ [c]) w' ∧ (∀ t x, VA (fun k => B ≤ k ∧ some k ≠ v.ownBlock) w t x → VA (fun k => B ≤ k ∧ some k ≠ v'.ownBlock) w' t x) ∧ (∀ q', q' ≠ g → Bx w q' g → Bx w' q' g) ∧ ∀ t r, o = some (t, r) → m' = r ∧ PA (fun k => B ≤ k ∧ some k ≠ v'.ownBlock) w' t c
set_option maxHeartbeats 8000000 in
set_option maxRecDepth 100000 in
theorem object1_d {Pc : List Value → Prop} {g B qr qa qb : Nat} {w0 : World} {d : Int} {v : Value} {cs : List (List Value)} {w : World} {o : Option ((List UInt8 × T) × List UInt8)} (q : Lq g B qr qa qb w0) (hL : Ls Pc 53 69 6 g B qr qa qb w0 v cs w) (hn : cs.length ≤ 1000000)
    (hc : Calls Tryz.prog 155 #[.pointer (some ⟨g, 0, none⟩)] w fun e w' => AnP g d w o e w' ∧ ∀ c b, e = .returned (.tuple #[.agg c, .bool b]) → Pc c.toList) :
    Calls Tryz.prog 154 #[.pointer (some ⟨qr, 0, none⟩), .pointer (some ⟨qb, 0, none⟩)] w (AnEP Pc g B qr qa qb w0 d v cs w o) := by
  have c0 := hL.bx.cell
  have hBs := hL.bs
  have hgB : g < B := by have := q.g0; have := q.r0; have := q.r1; omega
  go_enter Tryz.func154, Tryz.ntmps154
  go_wp2_with fail
  refine hc.mono ?_
  rintro e w1 ⟨⟨c, m1, rfl, hcs, hco, r1, k1, hv⟩, hPc⟩
  replace hPc := hPc c _ rfl
  have hr : (w1.alloc (.cells #[.string ⟨#[]⟩, .int .i64 0, .int .i64 0, .string ⟨#[]⟩, .slice none 0 0, .slice none 0 0] 69)).heap[w1.heap.size]? = some (.cells #[.string ⟨#[]⟩, .int .i64 0, .int .i64 0, .string ⟨#[]⟩, .slice none 0 0, .slice none 0 0] 69 (0, 0)) := by
    show (w1.heap.push _)[w1.heap.size]? = _
    rw [Array.getElem?_push, if_pos rfl]
  have hg1 := r1.lt
  have r2 := (r1.alloc (.cells #[.string ⟨#[]⟩, .int .i64 0, .int .i64 0, .string ⟨#[]⟩, .slice none 0 0, .slice none 0 0] 69)).own (b := w1.heap.size) (by omega) c
  have k2 : Kg g w ((w1.alloc (.cells #[.string ⟨#[]⟩, .int .i64 0, .int .i64 0, .string ⟨#[]⟩, .slice none 0 0, .slice none 0 0] 69)).setRow w1.heap.size c) := (k1.trans (Kg.alloc w1 _)).own k1.size c
  have h3 := setRow_heap (w1.alloc (.cells #[.string ⟨#[]⟩, .int .i64 0, .int .i64 0, .string ⟨#[]⟩, .slice none 0 0, .slice none 0 0] 69)) w1.heap.size _ c _ _ hr
  have k12 : Below w1.heap.size w1 ((w1.alloc (.cells #[.string ⟨#[]⟩, .int .i64 0, .int .i64 0, .string ⟨#[]⟩, .slice none 0 0, .slice none 0 0] 69)).setRow w1.heap.size c) := ⟨rfl, rfl, rfl, by simp [World.setRow], fun k hk => (setRow_other _ _ k c (by omega)).trans (by
    show (w1.heap.push _)[k]? = _
    rw [Array.getElem?_push, if_neg (by omega)])⟩
  have L2 := hL.step q k2
  have hq3 : B ≤ w1.heap.size := Nat.le_trans hBs k1.size
  replace r2 := hide1 r2
  replace k2 := hide1 k2
  replace h3 := hide1 h3
  replace k12 := hide1 k12
  replace L2 := hide1 L2
  replace hL := hide1 hL
  replace r1 := hide1 r1
  replace k1 := hide1 k1
  replace hv := hide1 hv
  clear hc
  have hst : (storeCells ⟨w1.heap.size, 0, none⟩ c.toList).run Tryz.prog (w1.alloc (.cells #[.string ⟨#[]⟩, .int .i64 0, .int .i64 0, .string ⟨#[]⟩, .slice none 0 0, .slice none 0 0] 69)) = .ok () ((w1.alloc (.cells #[.string ⟨#[]⟩, .int .i64 0, .int .i64 0, .string ⟨#[]⟩, .slice none 0 0, .slice none 0 0] 69)).setRow w1.heap.size c) := by
    have := run_storeCells_from (P := Tryz.prog) w1.heap.size 69 c.toList 0 #[.string ⟨#[]⟩, .int .i64 0, .int .i64 0, .string ⟨#[]⟩, .slice none 0 0, .slice none 0 0] _ hr (by simp [hcs]) (fun v hv => Array.all_eq_true_iff_forall_mem.1 hco v (by simpa using hv))
    simpa using this
  go_upto_region 2 with fail
  generalize (w1.alloc (.cells #[.string ⟨#[]⟩, .int .i64 0, .int .i64 0, .string ⟨#[]⟩, .slice none 0 0, .slice none 0 0] 69)).setRow w1.heap.size c = w2 at *
  generalize hq3e : w1.heap.size = q3 at *
  have hqb := L2.out.bb
  have hown := L2.out.row
  have hB2 := L2.out.bs
  have hqB := q.b1
  obtain ⟨va, vc, rfl⟩ : ∃ va vc, v = .slice va cs.length vc := by
    obtain ⟨_, ⟨h1, h2⟩ | ⟨g', cap, cur, h1, _⟩⟩ := hown
    · exact ⟨none, 0, by rw [h1, h2]⟩
    · exact ⟨_, cap, h1⟩
  refine wp_inv _ _ (by kernel_rfl) (by kernel_rfl) (by kernel_rfl) (ApP B cs.length qb (.slice va cs.length vc) cs.flatten c { tmps := #[.pointer (some ⟨qr, 0, none⟩), .pointer (some ⟨qb, 0, none⟩), .bool false, .pointer (some ⟨q3, 0, none⟩), .bool o.isSome, .tuple #[.agg c, .bool o.isSome], .pointer (some ⟨g, 0, none⟩), .tuple #[.agg c, .bool o.isSome], .agg c, .bool o.isSome, undef, undef, undef, undef, undef, undef, undef], defers := [] } w2) ?_ ?_ ?_
  · exact ⟨rfl, rfl, fun _ _ => rfl, rfl, rfl, rfl, Nat.le_refl _, fun _ _ _ _ => rfl, nofun, nofun, nofun, nofun, nofun, nofun, nofun, nofun, fun _ _ _ => rfl, nofun⟩
  · intro D a w hI i o ho hD hdep K hK
    match i, ho with
    | 0, ho =>
      obtain rfl := Option.some.inj ho
      obtain ⟨hl, hA⟩ := ap0P hI hqb hD (by show 15 < 17; decide)
      have t1 : a.tmps.getD 1 undef = .pointer (some ⟨qb, 0, none⟩) := hI.ot 1 (by decide)
      exact wp_val (w' := w) (by simp only [execOp, Act.eval]; rw [show a.tmps.getD 1 undef = _ from t1]; simp only [Sem.run_bind, ld_sP hl, Result.andThen_ok, Sem.run_pure]) (hK _ _ hA)
    | 1, ho =>
      obtain rfl := Option.some.inj ho
      obtain ⟨hl, hA⟩ := ap1P hI h3.out hD (by show 15 < 17; decide)
      have t1 : a.tmps.getD 3 undef = .pointer (some ⟨q3, 0, none⟩) := hI.ot 3 (by decide)
      exact wp_val (w' := w) (by simp only [execOp, Act.eval]; rw [show a.tmps.getD 3 undef = _ from t1]; simp only [Sem.run_bind, ldEP hl hcs, Result.andThen_ok, Sem.run_pure]) (hK _ _ hA)
    | 2, ho =>
      obtain rfl := Option.some.inj ho
      have t1 := hI.s0 (hdep ⟨0, .data⟩ (by simp) rfl)
      exact wp_val (w' := w) (by simp only [execOp, resolve, invoke, builtin, List.map_toArray, List.map_cons, List.map_nil, Sem.run_bind, Sem.run_pure, Result.andThen_ok, Act.eval]; rw [show a.tmps.getD 10 undef = _ from t1]; simp only [lenP, Result.andThen_ok]) (hK _ _ (ap2P hI hD (by show 15 < 17; decide)))
    | 3, ho =>
      obtain rfl := Option.some.inj ho
      have hl := bs_zP w
      refine wp_val (w' := w.alloc (.cells #[.string ⟨#[]⟩, .int .i64 0, .int .i64 0, .string ⟨#[]⟩, .slice none 0 0, .slice none 0 0] 69)) (v := .slice (some ⟨w.heap.size, 0, none⟩) 1 1) (by simp only [execOp, Act.eval, List.map_toArray, List.map_cons, List.map_nil, Sem.run_bind, hl, Result.andThen_ok, Sem.run_pure]) ?_
      exact hK _ _ (ap3P hI hD (by show 15 < 17; decide))
    | 4, ho =>
      obtain rfl := Option.some.inj ho
      exact ap4P rfl rfl hI hqb hown hB2 hqB hn (by show 15 < 17; decide) (hdep ⟨0, .data⟩ (by simp) rfl) (hdep ⟨1, .phase⟩ (by simp) rfl) (hdep ⟨2, .phase⟩ (by simp) rfl) (hdep ⟨3, .data⟩ (by simp) rfl) hD hK
    | 5, ho =>
      obtain rfl := Option.some.inj ho
      obtain ⟨gb, cap, t14, hA⟩ := ap5P hI (hdep ⟨4, .data⟩ (by simp) rfl) (by show 15 < 17; decide)
      have t12 := hI.s2 (hdep ⟨2, .data⟩ (by simp) rfl)
      exact wp_val (w' := w) (by simp only [execOp, Act.eval]; rw [show a.tmps.getD 14 undef = _ from t14, show a.tmps.getD 12 undef = _ from t12]; simp only [Sem.run_bind, ix_sP (Nat.lt_succ_self _), Result.andThen_ok, Sem.run_pure]) (hK _ _ hA)
    | 6, ho =>
      obtain rfl := Option.some.inj ho
      exact ap6P rfl rfl hI hown.1 hcs hco hqB hown hB2 (hdep ⟨1, .data⟩ (by simp) rfl) (hdep ⟨4, .chain⟩ (by simp) rfl) (hdep ⟨5, .data⟩ (by simp) rfl) hK
    | 7, ho =>
      obtain rfl := Option.some.inj ho
      exact ap7P rfl rfl hI rfl hqB hown hB2 (hdep ⟨4, .data⟩ (by simp) rfl) hK
    | _ + 8, ho => exact absurd ho (by simp)
  · intro D a w3 hI hall
    have hsz : a.tmps.size = 17 := hI.sz
    have hdf : a.defers = [] := hI.df
    have t4 : a.tmps.getD 4 undef = .bool o.isSome := hI.ot 4 (by decide)
    obtain ⟨gb, cap, t14, g1, g2, g3, g4⟩ := hI.s4 (hall 4 (by simp))
    rw [hall 6 (by simp), if_pos rfl] at g2
    rw [hall 7 (by simp), if_pos rfl] at g4
    have hE : ApE 53 69 6 B cs.length qb (.slice va cs.length vc) cs.flatten c w2 w3 (.slice (some ⟨gb, 0, none⟩) (cs.length + 1) cap) := ⟨hI.os, hI.tp, hI.ou, hI.hs, hI.fr, ⟨gb, cap, rfl, g1⟩, g2, g4⟩
    have hL3 := L2.out.put q hE ⟨hcs, hPc⟩
    have hlow : ∀ k, k < w2.heap.size → k ≠ qb → some k ≠ (Value.slice va cs.length vc).ownBlock → w3.heap[k]? = w2.heap[k]? := hI.fr
    have hrg : Rd w3 g m1 d := (hlow g r2.out.lt (by have := q.g0; have := q.b0; omega) (fun e => by
      have := (hown.lt g e.symm).1
      omega)).trans r2.out
    have ha : Hid (AnEP Pc g B qr qa qb w0 d (.slice va cs.length vc) cs w o (.returned (.bool o.isSome)) w3) := hide1 (by
      refine ⟨m1, _, c.toList, rfl, hrg, hL3, fun t x hx => ?_, fun q' hq' hx => ?_, fun t r e => ?_⟩
      · refine VA.put q hE (hx.frame (fun k hk hs => k2.out.block k hs ?_) (fun k hk _ => hk))
        have := hk.1
        omega
      · have hx2 : Bx w2 q' g := hx.kg k2.out hq'
        refine (hlow q' hx2.lt (fun e => ?_) (fun e => ?_)).trans hx2
        · subst e
          have := hx2.symm.trans hqb
          simp at this
        · obtain ⟨_, ⟨h1, _⟩ | ⟨g', cap', cur, h1, _, h2, _⟩⟩ := hown
          · rw [h1] at e; cases e
          · rw [h1] at e
            have : q' = g' := by simpa [Value.ownBlock] using e
            subst this
            have := hx2.symm.trans h2
            simp at this
      · obtain ⟨e1, e2⟩ := hv.out t r e
        refine ⟨e1, ?_⟩
        exact ⟨e2.1, VA.put q hE (e2.2.frame (fun k hk hs => k12.out.block k (by rw [← hq3e]; exact hs)) (fun k hk hs => ⟨Nat.le_trans hBs hk, fun e3 => by
          have h1 := (hL.out.row.lt k e3.symm).2
          have h2 : w.heap.size ≤ k := hk
          omega⟩))⟩)
    clear hI hL3 hE g2 g4 g3 hlow hrg
    obtain ⟨tm, df⟩ := a
    obtain rfl : df = [] := hdf
    replace hsz : tm.size = 17 := hsz
    replace t4 : tm.getD 4 undef = .bool o.isSome := t4
    have hex := arr17P tm hsz
    rw [t4] at hex
    generalize tm.getD 0 undef = x0 at hex
    generalize tm.getD 1 undef = x1 at hex
    generalize tm.getD 2 undef = x2 at hex
    generalize tm.getD 3 undef = x3 at hex
    generalize tm.getD 5 undef = x5 at hex
    generalize tm.getD 6 undef = x6 at hex
    generalize tm.getD 7 undef = x7 at hex
    generalize tm.getD 8 undef = x8 at hex
    generalize tm.getD 9 undef = x9 at hex
    generalize tm.getD 10 undef = x10 at hex
    generalize tm.getD 11 undef = x11 at hex
    generalize tm.getD 12 undef = x12 at hex
    generalize tm.getD 13 undef = x13 at hex
    generalize tm.getD 14 undef = x14 at hex
    generalize tm.getD 15 undef = x15 at hex
    generalize tm.getD 16 undef = x16 at hex
    subst hex
    refine (‹∀ (a : Act) (w : World), Code.wp Tryz.prog _ _ a w → _›) _ w3 ?_
    clear t4 t14
    go_wp2
    go_ret
    exact ha.out
end Go.Proofs.YtdhmonlhlfkjbaaGreatDoor

namespace Go.Proofs.YtdhmonlhlfkjbaaGreatDoor
open Go.RowKit Go.Maps

def Nmo (c : List Value) : Prop := Nmd c ∧ c.all (·.oneCell') = true
def LiP (g B qr qa qb : Nat) (w0 : World) (xs : List (List UInt8 × T)) (w : World) : Prop := ∃ v cs, Ls Nmo 53 69 6 g B qr qa qb w0 v cs w ∧ cs.length = xs.length ∧ cs.length ≤ 1000001 ∧ ∀ (j : Nat) (t : List UInt8 × T) (c : List Value), xs[j]? = some t → cs[j]? = some c → PA (fun k => B ≤ k ∧ some k ≠ v.ownBlock) w t c
def LjP (g B qr qa qb : Nat) (w0 : World) (w : World) : Prop := ∃ v cs, Ls Nmo 53 69 6 g B qr qa qb w0 v cs w ∧ cs.length ≤ 1000001
theorem PA.frame {F G : Nat → Prop} {w w' : World} {t : List UInt8 × T} {c : List Value} (h : PA F w t c)
    (hk : ∀ k, F k → k < w.heap.size → w'.heap[k]? = w.heap[k]?) (hG : ∀ k, F k → k < w.heap.size → G k) : PA G w' t c := ⟨h.1, h.2.frame hk hG⟩
theorem LiP.step {g B qr qa qb : Nat} {w0 w w' : World} {xs : List (List UInt8 × T)} (q : Lq g B qr qa qb w0) (h : LiP g B qr qa qb w0 xs w) (k : Kg g w w') : LiP g B qr qa qb w0 xs w' := by
  obtain ⟨v, cs, hL, hl, hb, hv⟩ := h
  have := q.gB
  exact ⟨v, cs, hL.step q k, hl, hb, fun j t c h1 h2 => (hv j t c h1 h2).frame (fun k' hk hs => k.block k' hs (by have := hk.1; omega)) (fun _ hk _ => hk)⟩
theorem object1_o {one : List UInt8 → Option (T × List UInt8)} {g B qr qa qb : Nat} {w0 : World} {d : Int} {N : Nat} (hN : N ≤ 1000000) (q : Lq g B qr qa qb w0)
    (hone : ∀ m w1, Rd w1 g m d → Ev w1 → m.length ≤ N → Calls Tryz.prog 33 #[.pointer (some ⟨g, 0, none⟩)] w1 (AnV g d w1 (one m)))
    {xs : List (List UInt8 × T)} {m : List UInt8} {w : World} (h : Rd w g m d) (hI : LiP g B qr qa qb w0 xs w) (hl : xs.length + m.length ≤ N) :
    Calls Tryz.prog 154 #[.pointer (some ⟨qr, 0, none⟩), .pointer (some ⟨qb, 0, none⟩)] w fun ed w' => ∃ m', ed = .returned (.bool (pr one m).isSome) ∧ Rd w' g m' d ∧ (∀ q, q < w.heap.size → q ≠ g → Bx w q g → Bx w' q g) ∧ LjP g B qr qa qb w0 w' ∧ ∀ x r, pr one m = some (x, r) → m' = r ∧ LiP g B qr qa qb w0 (xs ++ [x]) w' := by
  obtain ⟨v, cs, hL, hcl, hcb, hv⟩ := hI
  refine (object1_d (o := pr one m) q hL (by omega) ((pair_d h hL.ev q.hg (by omega) (fun m' w1 h1 h2 h3 => hone m' w1 h1 h2 (by omega))).mono fun e w' ⟨h1, h2⟩ => ⟨h1, fun c b e => ⟨h2 c b e, ?_⟩⟩)).mono ?_
  · obtain ⟨c', m', rfl, _, hco, _⟩ := h1
    cases e
    simpa using hco
  rintro e w' ⟨m', v', c, rfl, hr, hL', hold, hbx, hnew⟩
  refine ⟨m', rfl, hr, fun q' _ hq' hb => hbx q' hq' hb, ⟨v', _, hL', by simp; omega⟩, fun x r hx => ?_⟩
  obtain ⟨e1, e2⟩ := hnew x r hx
  refine ⟨e1, v', cs ++ [c], hL', by simp [hcl], by simp; omega, fun j t c' h1 h2 => ?_⟩
  rcases snoc_get h1 with h3 | ⟨h3, rfl⟩
  · rcases snoc_get h2 with h4 | ⟨h4, rfl⟩
    · exact ⟨(hv j t c' h3 h4).1, hold _ _ (hv j t c' h3 h4).2⟩
    · have := (List.getElem?_eq_some_iff.1 h3).1
      omega
  · rcases snoc_get h2 with h4 | ⟨h4, rfl⟩
    · have := (List.getElem?_eq_some_iff.1 h4).1
      omega
    · exact e2
def nmOf (c : List Value) : List UInt8 := match c.head? with
  | some (.string s) => s.data.toList
  | _ => []
theorem nm_all {F : Nat → Prop} {w : World} {v : Value} {cs : List (List Value)} (h : RwA F w 69 6 v cs) (hn : ∀ c ∈ cs, Nmo c) : NmA F w v cs (cs.map nmOf) := by
  have key : ∀ c ∈ cs, c.head? = some (.string (st (nmOf c))) ∧ (nmOf c).length ≤ 4000000 := fun c hc => by
    obtain ⟨⟨s, h1, h2⟩, _⟩ := hn c hc
    have : nmOf c = s := by unfold nmOf; rw [h1]; rfl
    rw [this]
    exact ⟨h1, h2⟩
  refine ⟨h, by simp, fun j c s h1 h2 => ?_, fun s hs => ?_, fun c hc => (hn c hc).2⟩
  · rw [List.getElem?_map, h1] at h2
    cases h2
    exact (key c (List.mem_of_getElem? h1)).1
  · obtain ⟨c, hc, rfl⟩ := List.mem_map.1 hs
    exact Nat.le_trans (key c hc).2 (by decide)
theorem nm_ps {F : Nat → Prop} {w : World} {cs : List (List Value)} {ps : List (List UInt8 × T)} (hl : cs.length = ps.length) (h : ∀ (j : Nat) (t : List UInt8 × T) (c : List Value), ps[j]? = some t → cs[j]? = some c → PA F w t c) : cs.map nmOf = ps.map (·.1) := by
  apply List.ext_getElem?
  intro j
  rw [List.getElem?_map, List.getElem?_map]
  rcases Nat.lt_or_ge j cs.length with h1 | h1
  · have h2 : j < ps.length := by omega
    have e1 := List.getElem?_eq_getElem h1
    have e2 := List.getElem?_eq_getElem h2
    have := (h j _ _ e2 e1).1
    rw [e1, e2]
    simp only [Option.map_some, nmOf, this]
    rfl
  · rw [List.getElem?_eq_none h1, List.getElem?_eq_none (by omega)]; rfl
def obV (one : List UInt8 → Option (T × List UInt8)) (d : Nat) (l : List UInt8) : Option (T × List UInt8) := match rwD (pr one) 123 125 d l with
  | none => none
  | some (ps, r) => if onc (ps.map (·.1)) then some (.mk 5 0 [] [] ps, r) else none
set_option maxHeartbeats 8000000 in
set_option maxRecDepth 100000 in
theorem object_d {one : List UInt8 → Option (T × List UInt8)} (hle : ∀ l x r, one l = some (x, r) → r.length ≤ l.length) {w : World} {g : Nat} {l : List UInt8} {d : Nat} (hd : d ≤ 8) (h : Rd w g l (d : Nat)) (hT : Ev w) (hg : 7 < g) (hN : l.length ≤ 1000000)
    (hone : d < 8 → ∀ m w1, Rd w1 g m ((d : Int) + 1) → Ev w1 → m.length ≤ l.length → Calls Tryz.prog 33 #[.pointer (some ⟨g, 0, none⟩)] w1 (AnV g ((d : Int) + 1) w1 (one m))) :
    Calls Tryz.prog 104 #[.pointer (some ⟨g, 0, none⟩)] w (AnV g (d : Nat) w (obV one d l)) := by
  have hgl := h.lt
  obtain ⟨W, hW⟩ : ∃ W, W = ((w.alloc (.cells #[.pointer (some ⟨g, 0, none⟩)] 93)).alloc (.cells #[.int .i64 0, .int .i64 0, .string ⟨#[]⟩, .slice none 0 0, .slice none 0 0] 55)).alloc (.cells #[.slice none 0 0] 53) := ⟨_, rfl⟩
  have hq : Lq g (w.heap.size + 3) w.heap.size (w.heap.size + 1) (w.heap.size + 2) w := ⟨hg, hgl, by omega, by omega, by omega, by omega, by omega, by omega, by omega, by omega⟩
  have kW : Kg g w W := by rw [hW]; exact ((Kg.alloc w _).trans (Kg.alloc _ _)).trans (Kg.alloc _ _)
  have rW : Rd W g l (d : Nat) := by rw [hW]; exact ((h.alloc _).alloc _).alloc _
  have hx : W.heap = ((w.heap.push (.cells #[.pointer (some ⟨g, 0, none⟩)] 93)).push (.cells #[.int .i64 0, .int .i64 0, .string ⟨#[]⟩, .slice none 0 0, .slice none 0 0] 55)).push (.cells #[.slice none 0 0] 53) := by rw [hW]; rfl
  have hS : LiP g (w.heap.size + 3) w.heap.size (w.heap.size + 1) (w.heap.size + 2) w [] W := by
    refine ⟨.slice none 0 0, [], ⟨?_, kW, hT.kg kW hg hgl, ?_, ?_, ⟨rfl, .inl ⟨rfl, rfl⟩⟩, by rw [hx]; simp, by simp⟩, rfl, by simp, by simp⟩
    · show W.heap[w.heap.size]? = _
      rw [hx]; exact (push3 _ _ _ _).1
    · rw [hx]; exact (push3 _ _ _ _).2.1
    · rw [hx]; exact (push3 _ _ _ _).2.2
  have hrow := row_d (K := 154) (cap := #[.pointer (some ⟨w.heap.size, 0, none⟩), .pointer (some ⟨w.heap.size + 2, 0, none⟩)]) (I := LiP g (w.heap.size + 3) w.heap.size (w.heap.size + 1) (w.heap.size + 2) w) (J := LjP g (w.heap.size + 3) w.heap.size (w.heap.size + 1) (w.heap.size + 2) w) (b := 123) (e := 125)
    (fun args w => by kernel_rfl) (fun xs w w' h k => h.step hq k) (fun w w' h k => by obtain ⟨v, cs, h, hb⟩ := h; exact ⟨v, cs, h.step hq k, hb⟩) (fun xs w h => by obtain ⟨v, cs, h, _, hb, _⟩ := h; exact ⟨v, cs, h, hb⟩) (fun l x r => pr_le hle) hd rW hS (fun hd8 xs m w h1 h2 h3 => object1_o hN hq (hone hd8) h1 h2 h3)
  have hob : obV one d l = match rwD (pr one) 123 125 d l with
    | none => none
    | some (ps, r) => if onc (ps.map (·.1)) then some (.mk 5 0 [] [] ps, r) else none := rfl
  generalize rwD (pr one) 123 125 d l = o at *
  generalize obV one d l = o2 at *
  have ld1 : W.cell? ⟨w.heap.size, 0, none⟩ = some (.pointer (some ⟨g, 0, none⟩)) := by
    obtain ⟨v, cs, hL, _⟩ := hS
    exact hL.bx.cell
  replace hS := hide1 hS
  replace kW := hide1 kW
  replace rW := hide1 rW
  replace hx := hide1 hx
  replace hob := hide1 hob
  clear hone hle
  subst hW
  go_enter Tryz.func104, Tryz.ntmps104
  go_wp2_with fail
  refine hrow.mono ?_
  rintro e w1 ⟨m, rfl, r1, hJ, hI⟩
  obtain ⟨v, cs, hL, hcb, hvs⟩ : ∃ v cs, Ls Nmo 53 69 6 g (w.heap.size + 3) w.heap.size (w.heap.size + 1) (w.heap.size + 2) w v cs w1 ∧ cs.length ≤ 1000001 ∧ ∀ xs r, o = some (xs, r) → m = r ∧ cs.length = xs.length ∧ ∀ (j : Nat) (t : List UInt8 × T) (c : List Value), xs[j]? = some t → cs[j]? = some c → PA (fun k => w.heap.size + 3 ≤ k ∧ some k ≠ v.ownBlock) w1 t c := by
    cases ho : o with
    | none =>
      obtain ⟨v, cs, hL, hb⟩ := hJ
      exact ⟨v, cs, hL, hb, fun _ _ e => nomatch e⟩
    | some y =>
      obtain ⟨xs, r⟩ := y
      obtain ⟨e1, v, cs, hL, hl, hb, hv⟩ := hI xs r ho
      exact ⟨v, cs, hL, hb, fun xs' r' e => by cases e; exact ⟨e1, hl, hv⟩⟩
  have c2 : w1.cell? ⟨w.heap.size + 2, 0, none⟩ = some v := by simp [World.cell?, hL.bb]
  have hrw := hL.rows (F := fun k => w.heap.size + 3 ≤ k) (fun k hk => hk)
  have hpl := places_d (nm_all hrw (fun c hc => (hL.ln c hc).2)) (by omega)
  clear hJ hI hrow hS kW rW hx ld1
  replace hL := hide1 hL
  replace hvs := hide1 hvs
  replace hrw := hide1 hrw
  replace r1 := hide1 r1
  replace h := hide1 h
  go_wp2_with fail
  refine hpl.mono ?_
  rintro e w2 ⟨bm, D, nm, rfl, b2, -, -, -⟩
  have hs1 : w.heap.size + 3 ≤ w1.heap.size := hL.out.bs
  have kp : ∀ k, k < w1.heap.size → w2.heap[k]? = w1.heap[k]? := b2.block
  have c3 : w2.cell? ⟨w.heap.size + 2, 0, none⟩ = some v := by simp [World.cell?, kp _ (by omega : w.heap.size + 2 < w1.heap.size), hL.out.bb]
  have hr := (kp (w.heap.size + 1) (by omega)).trans hL.out.an
  have r2 := (kp g r1.out.lt).trans r1.out
  have k2 : Kg g w w2 := hL.out.kg.trans (Kg.of b2)
  obtain ⟨va, vn, vc, hve⟩ := hrw.out.one
  have hz := setRow_heap w2 (w.heap.size + 1) _ #[.int .i64 5, .int .i64 0, .string ⟨#[]⟩, .slice none 0 0, v] _ _ hr
  have ha : AnV g (d : Nat) w o2 (.returned (.tuple #[.agg #[.int .i64 5, .int .i64 0, .string ⟨#[]⟩, .slice none 0 0, v], .bool (o.isSome && onc (cs.map nmOf))])) (w2.setRow (w.heap.size + 1) #[.int .i64 5, .int .i64 0, .string ⟨#[]⟩, .slice none 0 0, v]) := by
    have hb : (o.isSome && onc (cs.map nmOf)) = o2.isSome := by
      rw [hob.out]
      cases ho : o with
      | none => rfl
      | some y =>
        obtain ⟨xs, r⟩ := y
        obtain ⟨_, e2, e3⟩ := hvs.out xs r ho
        rw [nm_ps e2 e3]
        show (true && _) = _
        rw [Bool.true_and]
        show _ = (if onc (xs.map (·.1)) then some (T.mk 5 0 [] [] xs, r) else none).isSome
        cases onc (xs.map (·.1)) <;> rfl
    refine AnV.of hb rfl (by rw [hve]; kernel_rfl) (Rd.own r2 (by omega) _) (k2.own (by omega) _) fun t r e => ?_
    rw [hob.out] at e
    cases ho : o with
    | none => rw [ho] at e; cases e
    | some y =>
      obtain ⟨xs, r'⟩ := y
      rw [ho] at e
      obtain ⟨e1, e2, e3⟩ := hvs.out xs r' ho
      replace e : (if onc (xs.map (·.1)) then some (T.mk 5 0 [] [] xs, r') else none) = some (t, r) := e
      split at e
      · cases e
        refine ⟨e1, ?_⟩
        have hfr : ∀ k, w.heap.size + 3 ≤ k → k < w1.heap.size → (w2.setRow (w.heap.size + 1) #[.int .i64 5, .int .i64 0, .string ⟨#[]⟩, .slice none 0 0, v]).heap[k]? = w1.heap[k]? := fun k hk hs => (setRow_other w2 _ k _ (by omega)).trans (kp k hs)
        refine VA.mk (s := []) .nil (hrw.out.frame (fun k hk hs => hfr k hk hs) (fun k hk _ => by show w.heap.size ≤ k; have : w.heap.size + 3 ≤ k := hk; omega)) rfl e2 (by simp) (fun j q c h1 h2 => (e3 j q c h1 h2).1) (fun j q c h1 h2 => (e3 j q c h1 h2).2.frame (fun k hk hs => hfr k hk.1 hs) (fun k hk _ => by show w.heap.size ≤ k; have := hk.1; omega))
      · cases e
  replace ha := hide1 ha
  replace hz := hide1 hz
  subst hve
  clear hL hvs hrw hob r1 kp b2 k2 r2 hpl c2
  generalize onc (cs.map nmOf) = b1 at *
  cases ho : o.isSome with
  | true =>
    rw [ho] at ha
    go_wp2_with (refine wpList_store_row rfl Vt (.tmp 2) (.tmp 17) rfl (w.heap.size + 1) #[.int .i64 5, .int .i64 0, .string ⟨#[]⟩, .slice none 0 0, .slice va vn vc] rfl rfl Vt _ hr (by kernel_rfl) rfl (by kernel_rfl) ?_)
    refine bodyPost_ret (results_vt rfl _ rfl rfl hz.out) rfl ?_
    exact ha.out
  | false =>
    rw [ho] at ha
    go_wp2_with (refine wpList_store_row rfl Vt (.tmp 2) (.tmp 17) rfl (w.heap.size + 1) #[.int .i64 5, .int .i64 0, .string ⟨#[]⟩, .slice none 0 0, .slice va vn vc] rfl rfl Vt _ hr (by kernel_rfl) rfl (by kernel_rfl) ?_)
    refine bodyPost_ret (results_vt rfl _ rfl rfl hz.out) rfl ?_
    exact ha.out
theorem AnV.word {g : Nat} {d : Int} {w w' : World} {p m : List UInt8} {k i : Int} {e : Ending} (h : e = .returned (.tuple #[.agg #[.int .i64 k, .int .i64 i, .string ⟨#[]⟩, .slice none 0 0, .slice none 0 0], .bool (hp p m)]) ∧ Rd w' g (tk p m) d ∧ Kg g w w') :
    AnV g d w (if hp p m then some (.mk k i [] [] [], tk p m) else none) e w' := by
  obtain ⟨rfl, h1, h2⟩ := h
  refine ⟨#[.int .i64 k, .int .i64 i, .string ⟨#[]⟩, .slice none 0 0, .slice none 0 0], tk p m, ?_, rfl, by kernel_rfl, h1, h2, fun t r e => ?_⟩
  · cases hp p m <;> rfl
  · split at e
    · cases e; exact ⟨rfl, VA.leaf k i []⟩
    · cases e
def pvB (n : Nat) : List UInt8 → Option (T × List UInt8)
  | [] => none
  | b :: m =>
      if b.toNat = 110 then (if hp [110, 117, 108, 108] (b :: m) then some (.mk 0 0 [] [] [], tk [110, 117, 108, 108] (b :: m)) else none)
      else if b.toNat = 116 then (if hp [116, 114, 117, 101] (b :: m) then some (.mk 1 1 [] [] [], tk [116, 114, 117, 101] (b :: m)) else none)
      else if b.toNat = 102 then (if hp [102, 97, 108, 115, 101] (b :: m) then some (.mk 1 0 [] [] [], tk [102, 97, 108, 115, 101] (b :: m)) else none)
      else if b.toNat = 34 then qtV (b :: m)
      else if b.toNat = 91 then (match n with
        | 0 => none
        | n + 1 => match rw' (pv n) 91 93 (b :: m) with
          | none => none
          | some (xs, r) => some (.mk 4 0 [] xs [], r))
      else if b.toNat = 123 then (match n with
        | 0 => none
        | n + 1 => match rw' (pr (pv n)) 123 125 (b :: m) with
          | none => none
          | some (ps, r) => if onc (ps.map (·.1)) then some (.mk 5 0 [] [] ps, r) else none)
      else nmV (b :: m)
theorem pv_eq (n : Nat) (l : List UInt8) : pv n l = pvB n (sk l) := by
  rw [pv]
  cases sk l with
  | nil => rfl
  | cons b m => cases n <;> rfl
def Vok (g : Nat) (n d N : Nat) : Prop := ∀ (l : List UInt8) (w : World), Rd w g l (d : Nat) → Ev w → l.length ≤ N → Calls Tryz.prog 33 #[.pointer (some ⟨g, 0, none⟩)] w (AnV g (d : Nat) w (pv n l))
theorem Vok.of {g n d N : Nat} (hg : 7 < g)
    (hk : ∀ (m : List UInt8) (w : World), Rd w g m (d : Nat) → Ev w → m.length ≤ N → Calls Tryz.prog (hw m) #[.pointer (some ⟨g, 0, none⟩)] w (AnV g (d : Nat) w (pvB n m))) : Vok g n d N := by
  intro l w h hT hl
  rw [pv_eq]
  have hs := sk_le l
  have hgl := h.lt
  refine (value_d h (A := fun c b w' => ∃ m, b = (pvB n (sk l)).isSome ∧ Rd w' g m (d : Nat) ∧ ∀ t r, pvB n (sk l) = some (t, r) → m = r ∧ VA (w.heap.size + 1 ≤ ·) w' t c.toList) (fun w1 h1 k1 => ?_)).mono ?_
  · refine (hk (sk l) w1 h1 ((hT.kg (Kg.alloc w _) hg hgl).kg k1 hg (by simp; omega)) (by omega)).mono ?_
    rintro e w' ⟨c, m, rfl, hc, ho, hr, hkg, hv⟩
    refine ⟨c, _, rfl, hc, ho, hkg, m, rfl, hr, fun t r e => ?_⟩
    obtain ⟨e1, e2⟩ := hv t r e
    refine ⟨e1, e2.frame (fun _ _ _ => rfl) (fun k hk _ => ?_)⟩
    have := k1.size
    have h3 : w1.heap.size ≤ k := hk
    have : (w.alloc (.cells zV Vt)).heap.size = w.heap.size + 1 := by simp
    show w.heap.size + 1 ≤ k
    omega
  · rintro e w' ⟨c, b, w1, rfl, hc, ho, k1, ⟨m, hb, hr, hv⟩, rfl⟩
    exact AnV.box hgl k1 hr hc ho hb hv
theorem lsV_0 {one : List UInt8 → Option (T × List UInt8)} {l : List UInt8} : lsV one 8 l = none := rfl
theorem obV_0 {one : List UInt8 → Option (T × List UInt8)} {l : List UInt8} : obV one 8 l = none := rfl
theorem lsV_s {one : List UInt8 → Option (T × List UInt8)} {l : List UInt8} {d : Nat} (hd : d < 8) : lsV one d l = match rw' one 91 93 l with
    | none => none
    | some (xs, r) => some (.mk 4 0 [] xs [], r) := by
  unfold lsV rwD
  rw [if_neg (by omega)] <;> (cases rw' one 91 93 l <;> rfl)
theorem obV_s {one : List UInt8 → Option (T × List UInt8)} {l : List UInt8} {d : Nat} (hd : d < 8) : obV one d l = match rw' (pr one) 123 125 l with
    | none => none
    | some (ps, r) => if onc (ps.map (·.1)) then some (.mk 5 0 [] [] ps, r) else none := by
  unfold obV rwD
  rw [if_neg (by omega)] <;> (cases rw' (pr one) 123 125 l <;> rfl)
theorem value_v {g N : Nat} (hg : 7 < g) (hN : N ≤ 1000000) : ∀ (n d : Nat), n + d = 8 → Vok g n d N
  | n, d, hnd => by
    refine Vok.of hg fun m w h hT hl => ?_
    have hl' : m.length ≤ 1000000 := by omega
    cases m with
    | nil => exact number_d h hT hg hl'
    | cons b m =>
      show Calls Tryz.prog (hwN b.toNat) _ _ _
      unfold hwN pvB
      dsimp only
      by_cases h1 : b.toNat = 110
      · rw [if_pos h1, if_pos h1]; exact (null_d h).mono fun e w' h => AnV.word h
      · rw [if_neg h1, if_neg h1]
        by_cases h2 : b.toNat = 116
        · rw [if_pos h2, if_pos h2]; exact (yes_d h).mono fun e w' h => AnV.word h
        · rw [if_neg h2, if_neg h2]
          by_cases h3 : b.toNat = 102
          · rw [if_pos h3, if_pos h3]; exact (no_d h).mono fun e w' h => AnV.word h
          · rw [if_neg h3, if_neg h3]
            by_cases h4 : b.toNat = 34
            · rw [if_pos h4, if_pos h4]; exact text_d h hT hg hl'
            · rw [if_neg h4, if_neg h4]
              by_cases h5 : b.toNat = 91
              · rw [if_pos h5, if_pos h5]
                cases n with
                | zero =>
                  have : d = 8 := by omega
                  subst this
                  have := list_d (one := fun _ => none) (fun _ _ _ e => nomatch e) (d := 8) (by omega) h hT hg hl' (fun h => absurd h (by omega))
                  rw [lsV_0] at this
                  exact this
                | succ n =>
                  have hd : d < 8 := by omega
                  have := list_d (one := pv n) (pv_le n) (d := d) (by omega) h hT hg hl' (fun _ m w1 r1 e1 l1 => value_v hg hN n (d + 1) (by omega) m w1 r1 e1 (by omega))
                  rw [lsV_s hd] at this
                  exact this
              · rw [if_neg h5, if_neg h5]
                by_cases h6 : b.toNat = 123
                · rw [if_pos h6, if_pos h6]
                  cases n with
                  | zero =>
                    have : d = 8 := by omega
                    subst this
                    have := object_d (one := fun _ => none) (fun _ _ _ e => nomatch e) (d := 8) (by omega) h hT hg hl' (fun h => absurd h (by omega))
                    rw [obV_0] at this
                    exact this
                  | succ n =>
                    have hd : d < 8 := by omega
                    have := object_d (one := pv n) (pv_le n) (d := d) (by omega) h hT hg hl' (fun _ m w1 r1 e1 l1 => value_v hg hN n (d + 1) (by omega) m w1 r1 e1 (by omega))
                    rw [obV_s hd] at this
                    exact this
                · rw [if_neg h6, if_neg h6]; exact number_d h hT hg hl'
def BsA (w : World) (v : Value) (l : List UInt8) : Prop := ∃ a cap, v = .slice a l.length cap ∧ (l = [] ∨ ∃ b o, a = some ⟨b, o, none⟩ ∧ b < w.heap.size ∧ ∀ (j : Nat) (x : UInt8), l[j]? = some x → w.cell? ⟨b, o + j, none⟩ = some (.int .u8 (x.toNat : Nat)))
theorem BsA.below {w w' : World} {v : Value} {l : List UInt8} (h : BsA w v l) (hb : Below w.heap.size w w') : BsA w' v l := by
  obtain ⟨a, cap, rfl, h | ⟨b, o, rfl, hl, hc⟩⟩ := h
  · exact ⟨a, cap, rfl, .inl h⟩
  · exact ⟨_, cap, rfl, .inr ⟨b, o, rfl, Nat.lt_of_lt_of_le hl hb.size, fun j x hj => (hb.cell (show (⟨b, o + j, none⟩ : Addr).block < w.heap.size from hl)).trans (hc j x hj)⟩⟩
theorem str_nums (l : List UInt8) : strOfNums (l.map fun x => ((x.toNat : Nat) : Int)) = st l := by
  unfold strOfNums st
  congr 1
  apply Array.toList_inj.1
  simp
  rw [List.map_congr_left (g := id) (fun x _ => by simp), List.map_id]
theorem blw_own {B b : Nat} {w w1 : World} (h : Below B w w1) (hb : B ≤ b) (c : Array Value) : Below B w (w1.setRow b c) :=
  ⟨h.os, h.tape, h.output, by simpa [World.setRow] using h.size, fun k hk => (setRow_other w1 b k c (by omega)).trans (h.block k hk)⟩
theorem blw_kg {B g : Nat} {w w1 w2 : World} (h : Below B w w1) (hg : B ≤ g) (hB : B ≤ w1.heap.size) (k : Kg g w1 w2) : Below B w w2 :=
  ⟨k.os.trans h.os, k.tape.trans h.tape, k.output.trans h.output, Nat.le_trans h.size k.size, fun q hq => (k.block q (by omega) (by omega)).trans (h.block q hq)⟩
theorem blw_al {B : Nat} {w w1 : World} (h : Below B w w1) (hB : B ≤ w1.heap.size) (o : Obj) : Below B w (w1.alloc o) := h.alloc hB o
theorem conv_b {w : World} {v : Value} {l : List UInt8} (h : BsA w v l) : (convert 22 9 v).run Tryz.prog w = .ok (.string (st l)) w := by
  obtain ⟨a, cap, rfl, rfl | ⟨b, o, rfl, hl, hc⟩⟩ := h
  · cases a with
    | none => exact run_convert_bytes_nil w 22 5 Tryz.underlying22 Tryz.underlying5 0 cap 9 Tryz.underlying9
    | some x =>
      show (convert 22 9 (.slice (some x) 0 cap)).run Tryz.prog w = _
      rw [run_convert_bytes_string w 22 9 5 _ 0 cap Tryz.underlying22 Tryz.underlying5 Tryz.underlying9, run_bytesToString w x 0 cap [] (run_loadCells_list (P := Tryz.prog) w x [] (fun j v hj => by simp at hj))]
      rfl
  · rw [← str_nums]
    refine run_convert_bytes_arg w 22 5 Tryz.underlying22 Tryz.underlying5 b o l.length cap _ (by simp) (fun j hj => ?_) 9 Tryz.underlying9
    rw [hc j l[j] (List.getElem?_eq_getElem hj)]
    simp [List.getD_eq_getElem?_getD, hj]
def prsV (l : List UInt8) : Option T := if 4096 < l.length then none else match pv 8 l with
  | none => none
  | some (t, r) => if (sk r).isEmpty then some t else none
def prsE (l : List UInt8) : Int := if 4096 < l.length then 10 else 1
def AnX (w : World) (l : List UInt8) (e : Ending) (w' : World) : Prop :=
  ∃ c ev, e = .returned (.tuple #[.agg c, ev]) ∧ c.size = 5 ∧ c.all (·.oneCell') = true ∧ Below w.heap.size w w' ∧
    ((∃ t, prsV l = some t ∧ ev = .nilIface ∧ VA (w.heap.size ≤ ·) w' t c.toList) ∨ (prsV l = none ∧ ev = .iface 64 (.int .i64 (prsE l)) ∧ c = zV))
theorem AnX.bad {w w' : World} {l : List UInt8} {E : Int} (h : prsV l = none) (hE : prsE l = E) (hb : Below w.heap.size w w') : AnX w l (.returned (.tuple #[.agg zV, .iface 64 (.int .i64 E)])) w' :=
  ⟨zV, _, rfl, rfl, by kernel_rfl, hb, .inr ⟨h, by rw [hE], rfl⟩⟩
set_option maxHeartbeats 8000000 in
set_option maxRecDepth 100000 in
theorem parse_d {w : World} {v : Value} {l : List UInt8} (h : BsA w v l) (hT : Ev w) (h8 : 8 ≤ w.heap.size) : Calls Tryz.prog 20 #[v] w (AnX w l) := by
  have hr0 : (w.alloc (.cells zV Vt)).heap[w.heap.size]? = some (.cells zV Vt (0, 0)) := by
    show (w.heap.push _)[w.heap.size]? = _
    rw [Array.getElem?_push, if_pos rfl]
  have hb0 : Below w.heap.size w (w.alloc (.cells zV Vt)) := (Below.refl _ _).alloc (Nat.le_refl _) _
  have hcv : (convert 22 9 v).run Tryz.prog (w.alloc (.cells #[.int .i64 0, .int .i64 0, .string ⟨#[]⟩, .slice none 0 0, .slice none 0 0] 55)) = .ok (.string (st l)) (w.alloc (.cells #[.int .i64 0, .int .i64 0, .string ⟨#[]⟩, .slice none 0 0, .slice none 0 0] 55)) := conv_b (h.below hb0)
  obtain ⟨va, vc, rfl, -⟩ := h
  by_cases hl : 4096 < l.length
  · have h1 : prsV l = none := by unfold prsV; rw [if_pos hl]
    have h2 : prsE l = 10 := by unfold prsE; rw [if_pos hl]
    have hli : (4096 : Int) < (l.length : Int) := by omega
    have ha := hide1 (AnX.bad h1 h2 (blw_own hb0 (Nat.le_refl _) zV))
    have hz := hide1 (setRow_heap _ w.heap.size _ zV _ _ hr0)
    clear h1 h2 hcv
    go_enter Tryz.func20, Tryz.ntmps20
    go_wp2_with (refine wpList_store_row rfl Vt (.tmp 2) (.tmp 10) rfl w.heap.size zV rfl rfl Vt _ hr0 (by kernel_rfl) rfl (by kernel_rfl) ?_)
    refine bodyPost_ret (results_vt rfl _ rfl rfl hz.out) rfl ?_
    exact ha.out
  · have hli : (l.length : Int) ≤ 4096 := by omega
    have hE : prsE l = 1 := by unfold prsE; rw [if_neg hl]
    have hV : prsV l = match pv 8 l with
      | none => none
      | some (t, r) => if (sk r).isEmpty then some t else none := by unfold prsV; rw [if_neg hl]
    have hs1 : (w.alloc (.cells zV Vt)).heap.size = w.heap.size + 1 := by simp
    have hR : Rd ((w.alloc (.cells #[.int .i64 0, .int .i64 0, .string ⟨#[]⟩, .slice none 0 0, .slice none 0 0] 55)).alloc (.cells #[.string (st l), .int .i64 0] 76)) (w.heap.size + 1) l 0 := by
      show ((w.heap.push _).push _)[w.heap.size + 1]? = _
      rw [Array.getElem?_push, if_pos (by simp)]
    have hb1 : Below w.heap.size w ((w.alloc (.cells #[.int .i64 0, .int .i64 0, .string ⟨#[]⟩, .slice none 0 0, .slice none 0 0] 55)).alloc (.cells #[.string (st l), .int .i64 0] 76)) := blw_al hb0 (by rw [hs1]; omega) _
    have hr1 : ((w.alloc (.cells #[.int .i64 0, .int .i64 0, .string ⟨#[]⟩, .slice none 0 0, .slice none 0 0] 55)).alloc (.cells #[.string (st l), .int .i64 0] 76)).heap[w.heap.size]? = some (.cells zV Vt (0, 0)) := by
      show ((w.heap.push _).push _)[w.heap.size]? = _
      rw [Array.getElem?_push, if_neg (by simp), Array.getElem?_push, if_pos rfl]
      rfl
    have hs2 : ((w.alloc (.cells #[.int .i64 0, .int .i64 0, .string ⟨#[]⟩, .slice none 0 0, .slice none 0 0] 55)).alloc (.cells #[.string (st l), .int .i64 0] 76)).heap.size = w.heap.size + 2 := by simp
    have hcal := value_v (g := w.heap.size + 1) (N := 4096) (by omega) (by omega) 8 0 rfl l _ hR (hT.below hb1 (by omega)) (by omega)
    obtain ⟨q, hq⟩ : ∃ q, q = w.heap.size := ⟨_, rfl⟩
    replace hr1 := hide1 hr1
    replace hb1 := hide1 hb1
    replace hV := hide1 hV
    clear hR hr0 hb0 hs1 hT
    go_enter Tryz.func20, Tryz.ntmps20
    go_wp2_with fail
    refine hcal.mono ?_
    rintro e w2 ⟨c, m, rfl, hcs, hco, r2, k2, hv⟩
    have hs3 := k2.size
    rw [hs2] at hs3
    have hb2 := hide1 (blw_kg hb1.out (g := w.heap.size + 1) (by omega) (by rw [hs2]; omega) k2)
    have hr2 := hide1 ((k2.block w.heap.size (by rw [hs2]; omega) (by omega)).trans hr1.out)
    clear hr1 hb1 k2 hcal
    obtain ⟨c0, c1, c2, c3, c4, rfl⟩ := arr5 hcs
    have hr4 : (w2.alloc (.cells #[.int .i64 0, .int .i64 0, .string ⟨#[]⟩, .slice none 0 0, .slice none 0 0] Vt)).heap[w2.heap.size]? = some (.cells #[.int .i64 0, .int .i64 0, .string ⟨#[]⟩, .slice none 0 0, .slice none 0 0] Vt (0, 0)) := by
      show (w2.heap.push _)[w2.heap.size]? = _
      rw [Array.getElem?_push, if_pos rfl]
    have h5 := setRow_heap _ w2.heap.size _ #[c0, c1, c2, c3, c4] _ _ hr4
    have hal5 : ∀ k, k < w2.heap.size → ((w2.alloc (.cells #[.int .i64 0, .int .i64 0, .string ⟨#[]⟩, .slice none 0 0, .slice none 0 0] Vt)).setRow w2.heap.size #[c0, c1, c2, c3, c4]).heap[k]? = w2.heap[k]? := fun k hk => (setRow_other _ _ k _ (by omega)).trans (by
      show (w2.heap.push _)[k]? = _
      rw [Array.getElem?_push, if_neg (by omega)])
    have r5 := (hal5 _ r2.lt).trans r2
    have hr5 := (hal5 w.heap.size (by omega)).trans hr2.out
    have hb5 : Below w.heap.size w ((w2.alloc (.cells #[.int .i64 0, .int .i64 0, .string ⟨#[]⟩, .slice none 0 0, .slice none 0 0] Vt)).setRow w2.heap.size #[c0, c1, c2, c3, c4]) := blw_own (blw_al hb2.out (by omega) _) (by omega) _
    have hs5 : ((w2.alloc (.cells #[.int .i64 0, .int .i64 0, .string ⟨#[]⟩, .slice none 0 0, .slice none 0 0] Vt)).setRow w2.heap.size #[c0, c1, c2, c3, c4]).heap.size = w2.heap.size + 1 := by simp [World.setRow]
    have hv5 : ∀ t r, pv 8 l = some (t, r) → m = r ∧ VA (w.heap.size + 2 ≤ ·) ((w2.alloc (.cells #[.int .i64 0, .int .i64 0, .string ⟨#[]⟩, .slice none 0 0, .slice none 0 0] Vt)).setRow w2.heap.size #[c0, c1, c2, c3, c4]) t [c0, c1, c2, c3, c4] := fun t r e => by
      obtain ⟨e1, e2⟩ := hv t r e
      refine ⟨e1, e2.frame (fun k _ hs => hal5 k hs) (fun k hk _ => ?_)⟩
      rw [hs2] at hk
      exact hk
    replace h5 := hide1 h5
    replace hb5 := hide1 hb5
    replace hv5 := hide1 hv5
    replace hr5 := hide1 hr5
    replace hco := hide1 hco
    clear hal5 hv hb2 hr2 r2
    cases hp8 : pv 8 l with
    | none =>
      have hn : prsV l = none := by rw [hV.out, hp8]
      have ha := hide1 (AnX.bad hn hE (blw_own hb5.out (b := w.heap.size) (Nat.le_refl _) zV))
      have hz := hide1 (setRow_heap _ w.heap.size _ zV _ _ hr5.out)
      have hr6 := hr5.out
      clear hn hp8 hv5 r5
      go_wp2_with (first | refine wpList_store_row rfl Vt (.tmp 5) (.tmp 17) rfl w2.heap.size #[c0, c1, c2, c3, c4] rfl rfl Vt _ hr4 (by kernel_rfl) rfl hco.out ?_ | refine wpList_store_row rfl Vt (.tmp 2) (.tmp 25) rfl w.heap.size zV rfl rfl Vt _ hr6 (by kernel_rfl) rfl (by kernel_rfl) ?_)
      refine bodyPost_ret (results_vt rfl _ rfl rfl hz.out) rfl ?_
      exact ha.out
    | some y =>
      obtain ⟨t, r⟩ := y
      obtain ⟨rfl, hva⟩ := hv5.out t r hp8
      rw [hp8] at hV
      have hae := atEnd_d r5
      replace hva := hide1 hva
      clear hv5 hp8 r5
      go_wp2_with (refine wpList_store_row rfl Vt (.tmp 5) (.tmp 17) rfl w2.heap.size #[c0, c1, c2, c3, c4] rfl rfl Vt _ hr4 (by kernel_rfl) rfl hco.out ?_)
      refine hae.mono ?_
      rintro e w6 ⟨rfl, r6, k6⟩
      have hb6 := hide1 (blw_kg hb5.out (g := w.heap.size + 1) (by omega) (by rw [hs5]; omega) k6)
      have hr6 := (k6.block w.heap.size (by rw [hs5]; omega) (by omega)).trans hr5.out
      have h6 := (k6.block w2.heap.size (by rw [hs5]; omega) (by omega)).trans h5.out
      cases hse : (sk m).isEmpty with
      | false =>
        have hn : prsV l = none := by rw [hV.out]; simp [hse]
        have ha := hide1 (AnX.bad hn hE (blw_own hb6.out (b := w.heap.size) (Nat.le_refl _) zV))
        have hz := hide1 (setRow_heap _ w.heap.size _ zV _ _ hr6)
        clear hn hV hva h5 hb5 hr5 r6 k6 hb6 h6 hr4
        go_wp2_with (refine wpList_store_row rfl Vt (.tmp 2) (.tmp 25) rfl w.heap.size zV rfl rfl Vt _ hr6 (by kernel_rfl) rfl (by kernel_rfl) ?_)
        refine bodyPost_ret (results_vt rfl _ rfl rfl hz.out) rfl ?_
        exact ha.out
      | true =>
        have hn : prsV l = some t := by rw [hV.out]; simp [hse]
        have hz := hide1 (setRow_heap _ w.heap.size _ #[c0, c1, c2, c3, c4] _ _ hr6)
        have ha : Hid (AnX w l (.returned (.tuple #[.agg #[c0, c1, c2, c3, c4], .nilIface])) (w6.setRow w.heap.size #[c0, c1, c2, c3, c4])) := hide1 ⟨_, _, rfl, rfl, hco.out, blw_own hb6.out (Nat.le_refl _) _, .inl ⟨t, hn, rfl, hva.out.frame (fun k hk hs => (setRow_other _ _ k _ (by have : w.heap.size + 2 ≤ k := hk; omega)).trans (k6.block k hs (by have : w.heap.size + 2 ≤ k := hk; omega))) (fun k hk _ => by show w.heap.size ≤ k; have : w.heap.size + 2 ≤ k := hk; omega)⟩⟩
        have l0 : w6.cell? ⟨w2.heap.size, 0, none⟩ = some c0 := by simp only [World.cell?, h6]; rfl
        have l1 : w6.cell? ⟨w2.heap.size, 1, none⟩ = some c1 := by simp only [World.cell?, h6]; rfl
        have l2 : w6.cell? ⟨w2.heap.size, 2, none⟩ = some c2 := by simp only [World.cell?, h6]; rfl
        have l3 : w6.cell? ⟨w2.heap.size, 3, none⟩ = some c3 := by simp only [World.cell?, h6]; rfl
        have l4 : w6.cell? ⟨w2.heap.size, 4, none⟩ = some c4 := by simp only [World.cell?, h6]; rfl
        clear hn hV hva h5 hb5 hr5 r6 k6 hb6 h6 hr4
        go_wp2_with (refine wpList_store_row rfl Vt (.tmp 2) (.tmp 27) rfl w.heap.size #[c0, c1, c2, c3, c4] rfl rfl Vt _ hr6 (by kernel_rfl) rfl hco.out ?_)
        refine bodyPost_ret (results_vt rfl _ rfl rfl hz.out) rfl ?_
        exact ha.out
end Go.Proofs.YtdhmonlhlfkjbaaGreatDoor

namespace Go.Proofs.YtdhmonlhlfkjbaaGreatDoor
open Go.RowKit

theorem flat_len {z : Nat} {cs : List (List Value)} (h : ∀ c ∈ cs, c.length = z) : cs.flatten.length = cs.length * z := by
  rw [List.length_flatten, List.map_congr_left (g := fun _ => z) (fun c hc => h c hc), List.map_const', List.sum_replicate_nat]
theorem flat_set {z : Nat} : ∀ {cs : List (List Value)}, (∀ c ∈ cs, c.length = z) → ∀ (i : Nat) (x : List Value), i < cs.length → (cs.set i x).flatten = cs.flatten.take (i * z) ++ x ++ cs.flatten.drop (i * z + z)
  | [], _, i, x, h => by simp at h
  | c :: r, hl, 0, x, _ => by
    have hc := hl c (by simp)
    rw [List.set_cons_zero, List.flatten_cons, List.flatten_cons, Nat.zero_mul, List.take_zero, List.nil_append, Nat.zero_add, List.drop_left' hc]
  | c :: r, hl, i + 1, x, h => by
    have hc := hl c (by simp)
    have ih := flat_set (cs := r) (fun c hc => hl c (List.mem_cons_of_mem _ hc)) i x (by simpa using h)
    have t1 : (c ++ r.flatten).take (i * z + z) = c ++ r.flatten.take (i * z) := by
      rw [List.take_append, List.take_of_length_le (l := c) (by omega), hc, show i * z + z - z = i * z by omega]
    have t2 : (c ++ r.flatten).drop (i * z + z + z) = r.flatten.drop (i * z + z) := by
      rw [List.drop_append, List.drop_of_length_le (l := c) (by omega), hc, show i * z + z + z - z = i * z + z by omega, List.nil_append]
    rw [List.set_cons_succ, List.flatten_cons, List.flatten_cons, ih, Nat.succ_mul, t1, t2]
    simp only [List.append_assoc]
theorem flat_set1 {z : Nat} {cs : List (List Value)} (h : ∀ c ∈ cs, c.length = z + 1) {i : Nat} {u : Value} {c x : List Value} (hi : cs[i]? = some (u :: c)) : (cs.set i (u :: x)).flatten = cs.flatten.take (i * (z + 1) + 1) ++ x ++ cs.flatten.drop (i * (z + 1) + 1 + z) := by
  have hil := (List.getElem?_eq_some_iff.1 hi).1
  rw [flat_set h i _ hil]
  have hfl := flat_len h
  have hle : (i + 1) * (z + 1) ≤ cs.length * (z + 1) := Nat.mul_le_mul_right _ hil
  rw [Nat.succ_mul] at hle
  have h0 := flat_get h i 0 (u :: c) hi (by omega)
  have e : cs.flatten.take (i * (z + 1) + 1) = cs.flatten.take (i * (z + 1)) ++ [u] := by
    rw [List.take_add_one]
    rw [Nat.add_zero] at h0
    rw [h0]; rfl
  rw [e, show i * (z + 1) + 1 + z = i * (z + 1) + (z + 1) by omega]
  simp
theorem own_piece {w : World} {B gb n cap o m z : Nat} {e : TypeId} {xs : List Value} {c : Array Value} (h : w.ownsRow B e z (.slice (some ⟨gb, 0, none⟩) n cap) n xs) (hc : c.size = m) (ho : o + m ≤ n * z) {cur : Array Value} (hg : w.heap[gb]? = some (.cells cur e (0, 0))) :
    (w.setRow gb (cur.toList.take o ++ c.toList ++ cur.toList.drop (o + m)).toArray).ownsRow B e z (.slice (some ⟨gb, 0, none⟩) n cap) n (xs.take o ++ c.toList ++ xs.drop (o + m)) := by
  obtain ⟨hl, ⟨hv, _⟩ | ⟨g, cap', cur', hv, hB, hg', hcap, hm, hcs, htk⟩⟩ := h
  · cases hv
  · cases hv
    rw [hg] at hg'
    cases hg'
    have hcl : c.toList.length = m := by simpa using hc
    have hnz : n * z ≤ cur.size := by rw [hcs]; exact Nat.mul_le_mul_right z hcap
    have hcul : cur.toList.length = cur.size := by simp
    refine ⟨?_, .inr ⟨gb, cap, _, rfl, hB, setRow_heap w gb _ _ _ _ hg, hcap, hm, ?_, ?_⟩⟩
    · simp only [List.length_append, List.length_take, List.length_drop, hl, hcl]; omega
    · rw [List.size_toArray]
      simp only [List.length_append, List.length_take, List.length_drop, hcl, hcul]; omega
    · show (cur.toList.take o ++ c.toList ++ cur.toList.drop (o + m)).take (n * z) = _
      have hl1 : (cur.toList.take o ++ c.toList).length = o + m := by simp only [List.length_append, List.length_take, hcl, hcul]; omega
      rw [List.take_append, List.take_of_length_le (by omega), hl1, ← htk, List.take_take, Nat.min_eq_left (by omega), List.drop_take]
theorem own_cur {w : World} {B gb n cap z : Nat} {e : TypeId} {xs : List Value} (h : w.ownsRow B e z (.slice (some ⟨gb, 0, none⟩) n cap) n xs) : ∃ cur, w.heap[gb]? = some (.cells cur e (0, 0)) ∧ n * z ≤ cur.size ∧ B ≤ gb := by
  obtain ⟨hl, ⟨hv, _⟩ | ⟨g, cap', cur', hv, hB, hg', hcap, hm, hcs, htk⟩⟩ := h
  · cases hv
  · cases hv
    exact ⟨cur', hg', by rw [hcs]; exact Nat.mul_le_mul_right z hcap, hB⟩
def hgt : Nat → T → Prop
  | 0, _ => False
  | n + 1, .mk _ _ _ l p => l.length ≤ 1000000 ∧ p.length ≤ 1000000 ∧ (∀ t ∈ l, hgt n t) ∧ ∀ q ∈ p, hgt n q.2
def AnC (w : World) (t : T) (e : Ending) (w' : World) : Prop := ∃ c : Array Value, e = .returned (.agg c) ∧ c.size = 5 ∧ Below w.heap.size w w' ∧ VA (w.heap.size ≤ ·) w' t c.toList
structure Cp {α : Type} (X : (Nat → Prop) → World → α → List Value → Prop) (EL : TypeId) (z B : Nat) (l : List α) (cs : List (List Value)) (v : Value) (i : Nat) (wr : World) (ds : List (List Value)) : Prop where
  row : wr.ownsRow B EL z v ds.length ds.flatten
  ln : ds.length = cs.length
  lz : ∀ c ∈ ds, c.length = z
  old : ∀ j, i ≤ j → ds[j]? = cs[j]?
  new : ∀ (j : Nat) (t : α) (c : List Value), j < i → l[j]? = some t → ds[j]? = some c → X (fun k => B ≤ k ∧ some k ≠ v.ownBlock) wr t c
section
variable {α : Type} {X : (Nat → Prop) → World → α → List Value → Prop} {EL : TypeId} {z B : Nat} {l : List α} {cs ds : List (List Value)} {v : Value} {i : Nat} {wr w' : World}
theorem Cp.start (h : wr.ownsRow B EL z v cs.length cs.flatten) (hz : ∀ c ∈ cs, c.length = z) : Cp X EL z B l cs v 0 wr cs := ⟨h, rfl, hz, fun _ _ => rfl, fun _ _ _ h => absurd h (by omega)⟩
theorem Cp.keep (hX : ∀ F w w' t c, X F w t c → (∀ k, F k → k < w.heap.size → w'.heap[k]? = w.heap[k]?) → X F w' t c) (h : Cp X EL z B l cs v i wr ds) (hk : ∀ k, B ≤ k → k < wr.heap.size → w'.heap[k]? = wr.heap[k]?) : Cp X EL z B l cs v i w' ds :=
  ⟨own_kept h.row fun b e => hk b (h.row.lt b e).1 (h.row.lt b e).2, h.ln, h.lz, h.old, fun j t c h1 h2 h3 => hX _ _ _ _ _ (h.new j t c h1 h2 h3) fun k hF hs => hk k hF.1 hs⟩
theorem Cp.step (hX : ∀ F w w' t c, X F w t c → (∀ k, F k → k < w.heap.size → w'.heap[k]? = w.heap[k]?) → X F w' t c) (h : Cp X EL z B l cs v i wr ds) {x : List Value} (hx : x.length = z) (hi : i < ds.length) {gb : Nat} (hv : v.ownBlock = some gb)
    (hk : ∀ k, k ≠ gb → w'.heap[k]? = wr.heap[k]?) (hrow : w'.ownsRow B EL z v ds.length (ds.set i x).flatten) (hn : ∀ t, l[i]? = some t → X (fun k => B ≤ k ∧ some k ≠ v.ownBlock) w' t x) : Cp X EL z B l cs v (i + 1) w' (ds.set i x) := by
  refine ⟨by rw [List.length_set]; exact hrow, by rw [List.length_set]; exact h.ln, fun c hc => ?_, fun j hj => ?_, fun j t c h1 h2 h3 => ?_⟩
  · rcases List.mem_or_eq_of_mem_set hc with h1 | h1
    · exact h.lz c h1
    · rw [h1]; exact hx
  · rw [List.getElem?_set_ne (by omega)]; exact h.old j (by omega)
  · by_cases e : j = i
    · subst e
      rw [List.getElem?_set_self hi] at h3
      cases h3
      exact hn t h2
    · rw [List.getElem?_set_ne (fun e2 => e e2.symm)] at h3
      refine hX _ _ _ _ _ (h.new j t c (by omega) h2 h3) fun k hF _ => hk k (fun e2 => hF.2 (by rw [hv, e2]))
end
theorem VA.fr (F : Nat → Prop) (w w' : World) (t : T) (c : List Value) (h : VA F w t c) (hk : ∀ k, F k → k < w.heap.size → w'.heap[k]? = w.heap[k]?) : VA F w' t c := h.frame hk fun _ h _ => h
theorem PA.fr (F : Nat → Prop) (w w' : World) (t : List UInt8 × T) (c : List Value) (h : PA F w t c) (hk : ∀ k, F k → k < w.heap.size → w'.heap[k]? = w.heap[k]?) : PA F w' t c := ⟨h.1, h.2.frame hk fun _ h _ => h⟩
theorem own_rows {w : World} {B z : Nat} {e : TypeId} {v : Value} {cs : List (List Value)} (h : w.ownsRow B e z v cs.length cs.flatten) (hz : ∀ c ∈ cs, c.length = z) {F : Nat → Prop} (hF : ∀ k, B ≤ k → F k) : RwA F w e z v cs := by
  refine ⟨hz, ?_⟩
  obtain ⟨hl, ⟨h1, h2⟩ | ⟨g', cap, cur, h1, hB, hg, hcap, hm, hcs, htk⟩⟩ := h
  · exact .inl ⟨none, 0, h1, List.length_eq_zero_iff.1 h2⟩
  · refine .inr ⟨g', 0, cap, cur, (e, (0, 0)), h1, hF g' hB, hg, ?_, by simpa using htk⟩
    rw [hcs, Nat.zero_add]
    exact Nat.mul_le_mul_right z hcap
structure Cb (w : World) (c : Array Value) (wr : World) : Prop where
  bw : Below w.heap.size w wr
  b2 : wr.heap[w.heap.size]? = some (.cells c 55 (0, 0))
  b4 : wr.heap[w.heap.size + 1]? = some (.cells zV 55 (0, 0))
  sz : w.heap.size + 2 ≤ wr.heap.size
theorem Cb.keep {w wr w' : World} {c : Array Value} (h : Cb w c wr) (hb : Below wr.heap.size wr w') : Cb w c w' := by
  have hs := h.sz
  exact ⟨h.bw.trans (hb.mono h.bw.size), (hb.block _ (by omega)).trans h.b2, (hb.block _ (by omega)).trans h.b4, Nat.le_trans hs hb.size⟩
theorem Cb.over {w wr : World} {c : Array Value} (h : Cb w c wr) {b : Nat} (hb : w.heap.size + 2 ≤ b) (x : Array Value) : Cb w c (wr.setRow b x) := by
  refine ⟨blw_own h.bw (by omega) x, (setRow_other wr b _ x (by omega)).trans h.b2, (setRow_other wr b _ x (by omega)).trans h.b4, by simpa [World.setRow] using h.sz⟩
end Go.Proofs.YtdhmonlhlfkjbaaGreatDoor

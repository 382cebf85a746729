/- JSp, JSq, JH, JI, JJ, JK, JL, JF2, JM, KA, KB1, CA4, CS1, CS2, JN, JO, JV, JSv: laid together. -/
import Derived.Deep.MidRow
import Derived.Handy
import Derived.Lib.SlBytesConst
import Derived.Lib.MapLaws
import Derived.Lib.AppendStr
import Derived.Lib.Bytealg
import Derived.WalkKit
import Derived.ProofKit
import Derived.OpenShut
import Derived.ChangeOld
import Derived.Below
import Derived.Deep.Slices
import Derived.Test.YtbemaloaobeblaaGreatDoorProg
import Derived.Shelf.Unicode.ValidAny
import Derived.Test.YtbemaloaobeblaaGreatDoorG2
import Derived.Test.YtbemaloaobeblaaGreatDoorG1
namespace Go.Proofs.YtbemaloaobeblaaGreatDoor
open Go.RowKit

theorem flat_len {z : Nat} {cs : List (List Value)} (h : ∀ c ∈ cs, c.length = z) : cs.flatten.length = cs.length * z := by
  rw [List.length_flatten, List.map_congr_left (g := fun _ => z) (fun c hc => h c hc), List.map_const', List.sum_replicate_nat]
theorem flat_set {z : Nat} : ∀ {cs : List (List Value)}, (∀ c ∈ cs, c.length = z) → ∀ (i : Nat) (x : List Value), i < cs.length → (cs.set i x).flatten = cs.flatten.take (i * z) ++ x ++ cs.flatten.drop (i * z + z)
  | [], _, i, x, h => by simp at h
  | c :: r, hl, 0, x, _ => by
    have hc := hl c (by simp)
    rw [List.set_cons_zero, List.flatten_cons, List.flatten_cons, Nat.zero_mul, List.take_zero, List.nil_append, Nat.zero_add, List.drop_left' hc]
  | c :: r, hl, i + 1, x, h => by
    have hc := hl c (by simp)
    have ih := flat_set (cs := r) (fun c hc => hl c (List.mem_cons_of_mem _ hc)) i x (by simpa using h)
    have t1 : (c ++ r.flatten).take (i * z + z) = c ++ r.flatten.take (i * z) := by
      rw [List.take_append, List.take_of_length_le (l := c) (by omega), hc, show i * z + z - z = i * z by omega]
    have t2 : (c ++ r.flatten).drop (i * z + z + z) = r.flatten.drop (i * z + z) := by
      rw [List.drop_append, List.drop_of_length_le (l := c) (by omega), hc, show i * z + z + z - z = i * z + z by omega, List.nil_append]
    rw [List.set_cons_succ, List.flatten_cons, List.flatten_cons, ih, Nat.succ_mul, t1, t2]
    simp only [List.append_assoc]
theorem flat_set1 {z : Nat} {cs : List (List Value)} (h : ∀ c ∈ cs, c.length = z + 1) {i : Nat} {u : Value} {c x : List Value} (hi : cs[i]? = some (u :: c)) : (cs.set i (u :: x)).flatten = cs.flatten.take (i * (z + 1) + 1) ++ x ++ cs.flatten.drop (i * (z + 1) + 1 + z) := by
  have hil := (List.getElem?_eq_some_iff.1 hi).1
  rw [flat_set h i _ hil]
  have hfl := flat_len h
  have hle : (i + 1) * (z + 1) ≤ cs.length * (z + 1) := Nat.mul_le_mul_right _ hil
  rw [Nat.succ_mul] at hle
  have h0 := flat_get h i 0 (u :: c) hi (by omega)
  have e : cs.flatten.take (i * (z + 1) + 1) = cs.flatten.take (i * (z + 1)) ++ [u] := by
    rw [List.take_add_one]
    rw [Nat.add_zero] at h0
    rw [h0]; rfl
  rw [e, show i * (z + 1) + 1 + z = i * (z + 1) + (z + 1) by omega]
  simp
theorem own_piece {w : World} {B gb n cap o m z : Nat} {e : TypeId} {xs : List Value} {c : Array Value} (h : w.ownsRow B e z (.slice (some ⟨gb, 0, none⟩) n cap) n xs) (hc : c.size = m) (ho : o + m ≤ n * z) {cur : Array Value} (hg : w.heap[gb]? = some (.cells cur e (0, 0))) :
    (w.setRow gb (cur.toList.take o ++ c.toList ++ cur.toList.drop (o + m)).toArray).ownsRow B e z (.slice (some ⟨gb, 0, none⟩) n cap) n (xs.take o ++ c.toList ++ xs.drop (o + m)) := by
  obtain ⟨hl, ⟨hv, _⟩ | ⟨g, cap', cur', hv, hB, hg', hcap, hm, hcs, htk⟩⟩ := h
  · cases hv
  · cases hv
    rw [hg] at hg'
    cases hg'
    have hcl : c.toList.length = m := by simpa using hc
    have hnz : n * z ≤ cur.size := by rw [hcs]; exact Nat.mul_le_mul_right z hcap
    have hcul : cur.toList.length = cur.size := by simp
    refine ⟨?_, .inr ⟨gb, cap, _, rfl, hB, setRow_heap w gb _ _ _ _ hg, hcap, hm, ?_, ?_⟩⟩
    · simp only [List.length_append, List.length_take, List.length_drop, hl, hcl]; omega
    · rw [List.size_toArray]
      simp only [List.length_append, List.length_take, List.length_drop, hcl, hcul]; omega
    · show (cur.toList.take o ++ c.toList ++ cur.toList.drop (o + m)).take (n * z) = _
      have hl1 : (cur.toList.take o ++ c.toList).length = o + m := by simp only [List.length_append, List.length_take, hcl, hcul]; omega
      rw [List.take_append, List.take_of_length_le (by omega), hl1, ← htk, List.take_take, Nat.min_eq_left (by omega), List.drop_take]
theorem own_cur {w : World} {B gb n cap z : Nat} {e : TypeId} {xs : List Value} (h : w.ownsRow B e z (.slice (some ⟨gb, 0, none⟩) n cap) n xs) : ∃ cur, w.heap[gb]? = some (.cells cur e (0, 0)) ∧ n * z ≤ cur.size ∧ B ≤ gb := by
  obtain ⟨hl, ⟨hv, _⟩ | ⟨g, cap', cur', hv, hB, hg', hcap, hm, hcs, htk⟩⟩ := h
  · cases hv
  · cases hv
    exact ⟨cur', hg', by rw [hcs]; exact Nat.mul_le_mul_right z hcap, hB⟩
def hgt : Nat → T → Prop
  | 0, _ => False
  | n + 1, .mk _ _ _ l p => l.length ≤ 1000000 ∧ p.length ≤ 1000000 ∧ (∀ t ∈ l, hgt n t) ∧ ∀ q ∈ p, hgt n q.2
def AnC (w : World) (t : T) (e : Ending) (w' : World) : Prop := ∃ c : Array Value, e = .returned (.agg c) ∧ c.size = 5 ∧ Below w.heap.size w w' ∧ VA (w.heap.size ≤ ·) w' t c.toList
structure Cp {α : Type} (X : (Nat → Prop) → World → α → List Value → Prop) (EL : TypeId) (z B : Nat) (l : List α) (cs : List (List Value)) (v : Value) (i : Nat) (wr : World) (ds : List (List Value)) : Prop where
  row : wr.ownsRow B EL z v ds.length ds.flatten
  ln : ds.length = cs.length
  lz : ∀ c ∈ ds, c.length = z
  old : ∀ j, i ≤ j → ds[j]? = cs[j]?
  new : ∀ (j : Nat) (t : α) (c : List Value), j < i → l[j]? = some t → ds[j]? = some c → X (fun k => B ≤ k ∧ some k ≠ v.ownBlock) wr t c
section
variable {α : Type} {X : (Nat → Prop) → World → α → List Value → Prop} {EL : TypeId} {z B : Nat} {l : List α} {cs ds : List (List Value)} {v : Value} {i : Nat} {wr w' : World}
theorem Cp.start (h : wr.ownsRow B EL z v cs.length cs.flatten) (hz : ∀ c ∈ cs, c.length = z) : Cp X EL z B l cs v 0 wr cs := ⟨h, rfl, hz, fun _ _ => rfl, fun _ _ _ h => absurd h (by omega)⟩
theorem Cp.keep (hX : ∀ F w w' t c, X F w t c → (∀ k, F k → k < w.heap.size → w'.heap[k]? = w.heap[k]?) → X F w' t c) (h : Cp X EL z B l cs v i wr ds) (hk : ∀ k, B ≤ k → k < wr.heap.size → w'.heap[k]? = wr.heap[k]?) : Cp X EL z B l cs v i w' ds :=
  ⟨own_kept h.row fun b e => hk b (h.row.lt b e).1 (h.row.lt b e).2, h.ln, h.lz, h.old, fun j t c h1 h2 h3 => hX _ _ _ _ _ (h.new j t c h1 h2 h3) fun k hF hs => hk k hF.1 hs⟩
theorem Cp.step (hX : ∀ F w w' t c, X F w t c → (∀ k, F k → k < w.heap.size → w'.heap[k]? = w.heap[k]?) → X F w' t c) (h : Cp X EL z B l cs v i wr ds) {x : List Value} (hx : x.length = z) (hi : i < ds.length) {gb : Nat} (hv : v.ownBlock = some gb)
    (hk : ∀ k, k ≠ gb → w'.heap[k]? = wr.heap[k]?) (hrow : w'.ownsRow B EL z v ds.length (ds.set i x).flatten) (hn : ∀ t, l[i]? = some t → X (fun k => B ≤ k ∧ some k ≠ v.ownBlock) w' t x) : Cp X EL z B l cs v (i + 1) w' (ds.set i x) := by
  refine ⟨by rw [List.length_set]; exact hrow, by rw [List.length_set]; exact h.ln, fun c hc => ?_, fun j hj => ?_, fun j t c h1 h2 h3 => ?_⟩
  · rcases List.mem_or_eq_of_mem_set hc with h1 | h1
    · exact h.lz c h1
    · rw [h1]; exact hx
  · rw [List.getElem?_set_ne (by omega)]; exact h.old j (by omega)
  · by_cases e : j = i
    · subst e
      rw [List.getElem?_set_self hi] at h3
      cases h3
      exact hn t h2
    · rw [List.getElem?_set_ne (fun e2 => e e2.symm)] at h3
      refine hX _ _ _ _ _ (h.new j t c (by omega) h2 h3) fun k hF _ => hk k (fun e2 => hF.2 (by rw [hv, e2]))
end
theorem VA.fr (F : Nat → Prop) (w w' : World) (t : T) (c : List Value) (h : VA F w t c) (hk : ∀ k, F k → k < w.heap.size → w'.heap[k]? = w.heap[k]?) : VA F w' t c := h.frame hk fun _ h _ => h
theorem PA.fr (F : Nat → Prop) (w w' : World) (t : List UInt8 × T) (c : List Value) (h : PA F w t c) (hk : ∀ k, F k → k < w.heap.size → w'.heap[k]? = w.heap[k]?) : PA F w' t c := ⟨h.1, h.2.frame hk fun _ h _ => h⟩
theorem own_rows {w : World} {B z : Nat} {e : TypeId} {v : Value} {cs : List (List Value)} (h : w.ownsRow B e z v cs.length cs.flatten) (hz : ∀ c ∈ cs, c.length = z) {F : Nat → Prop} (hF : ∀ k, B ≤ k → F k) : RwA F w e z v cs := by
  refine ⟨hz, ?_⟩
  obtain ⟨hl, ⟨h1, h2⟩ | ⟨g', cap, cur, h1, hB, hg, hcap, hm, hcs, htk⟩⟩ := h
  · exact .inl ⟨none, 0, h1, List.length_eq_zero_iff.1 h2⟩
  · refine .inr ⟨g', 0, cap, cur, (e, (0, 0)), h1, hF g' hB, hg, ?_, by simpa using htk⟩
    rw [hcs, Nat.zero_add]
    exact Nat.mul_le_mul_right z hcap
structure Cb (w : World) (c : Array Value) (wr : World) : Prop where
  bw : Below w.heap.size w wr
  b2 : wr.heap[w.heap.size]? = some (.cells c 28 (0, 0))
  b4 : wr.heap[w.heap.size + 1]? = some (.cells zV 28 (0, 0))
  sz : w.heap.size + 2 ≤ wr.heap.size
theorem Cb.keep {w wr w' : World} {c : Array Value} (h : Cb w c wr) (hb : Below wr.heap.size wr w') : Cb w c w' := by
  have hs := h.sz
  exact ⟨h.bw.trans (hb.mono h.bw.size), (hb.block _ (by omega)).trans h.b2, (hb.block _ (by omega)).trans h.b4, Nat.le_trans hs hb.size⟩
theorem Cb.over {w wr : World} {c : Array Value} (h : Cb w c wr) {b : Nat} (hb : w.heap.size + 2 ≤ b) (x : Array Value) : Cb w c (wr.setRow b x) := by
  refine ⟨blw_own h.bw (by omega) x, (setRow_other wr b _ x (by omega)).trans h.b2, (setRow_other wr b _ x (by omega)).trans h.b4, by simpa [World.setRow] using h.sz⟩
theorem results_v1 {fn : Func} {t : Tmp} (h : fn.results = #[.cell t Vt]) (tmps : Array Value) {w : World} {b : Nat} {c : Array Value} (ht : tmps.getD t undef = .pointer (some ⟨b, 0, none⟩)) (hs : c.size = 5) (hg : w.heap[b]? = some (.cells c Vt (0, 0))) :
    (results fn tmps).run Tryz.prog w = .ok (.agg c) w := by
  have hl := run_loadVar_row (P := Tryz.prog) w b Vt Vt c (0, 0) _ hg Tryz.underlying28 (by rfl) (by rw [hs]; kernel_rfl)
  have ht2 : tmps[t]?.getD undef = .pointer (some ⟨b, 0, none⟩) := by simpa using ht
  simp [results, h, ht2, asAddr, hl]
theorem sub_1 {d : Nat} (hd : 0 < d) (hb : d ≤ 65536) (w : World) : (binOp .sub 3 (.int .i64 (d : Nat)) (.int .i64 1)).run Tryz.prog w = .ok (.int .i64 (d - 1 : Nat)) w := by
  have e : ((d - 1 : Nat) : Int) = (d : Int) - 1 := by omega
  have hwr : IntKind.i64.wrap ((d : Int) - 1) = (d : Int) - 1 := by go_unwrap
  rw [e]
  simp [go_sem, hwr]
theorem eqg_sub {t : TypeId} {x u : Operand} {a b : Value} {w : World} : (eqGuard .sub t x u a b).run Tryz.prog w = .ok () w := rfl
def R7 (q2 gb nn vc i d : Nat) (C : Array Value) (w3 : World) (u : T) : Nat → Value → World → Prop
  | 0, v, _ => v = .pointer (some ⟨q2, 3, none⟩)
  | 1, v, _ => v = .slice (some ⟨gb, 0, none⟩) nn vc
  | 2, v, _ => v = .int .i64 (i : Nat)
  | 3, v, _ => v = .agg C
  | 4, v, _ => v = .int .i64 (d : Nat)
  | 5, v, _ => v = .int .i64 (d - 1 : Nat)
  | 6, v, w => ∃ c : Array Value, v = .agg c ∧ c.size = 5 ∧ VA (w3.heap.size ≤ ·) w u c.toList
  | 7, v, _ => v = .pointer (some ⟨gb, i * 5, none⟩)
  | _, _, _ => True
theorem R7_mono {q2 gb nn vc i d : Nat} {C : Array Value} {w3 : World} {u : T} (j : Nat) (v : Value) (w w' : World) (h : R7 q2 gb nn vc i d C w3 u j v w) (hb : Below w.heap.size w w') : R7 q2 gb nn vc i d C w3 u j v w' := by
  match j, h with
  | 0, h | 1, h | 2, h | 3, h | 4, h | 5, h | 7, h => exact h
  | 6, h =>
    obtain ⟨c, h1, h2, h3⟩ := h
    exact ⟨c, h1, h2, h3.frame (fun k _ hs => hb.block k hs) (fun _ h _ => h)⟩
  | _ + 8, h => trivial
def R13 (q2 q8 gb nn vc i d : Nat) (C : Array Value) (w3 : World) (u : T) : Nat → Value → World → Prop
  | 0, v, _ => v = .pointer (some ⟨q2, 4, none⟩)
  | 1, v, _ => v = .slice (some ⟨gb, 0, none⟩) nn vc
  | 2, v, _ => v = .int .i64 (i : Nat)
  | 3, v, _ => v = .pointer (some ⟨q8, 1, none⟩)
  | 4, v, _ => v = .agg C
  | 5, v, _ => v = .int .i64 (d : Nat)
  | 6, v, _ => v = .int .i64 (d - 1 : Nat)
  | 7, v, w => ∃ c : Array Value, v = .agg c ∧ c.size = 5 ∧ VA (w3.heap.size ≤ ·) w u c.toList
  | 8, v, _ => v = .pointer (some ⟨gb, i * 6, none⟩)
  | 9, v, _ => v = .pointer (some ⟨gb, i * 6 + 1, none⟩)
  | _, _, _ => True
theorem R13_mono {q2 q8 gb nn vc i d : Nat} {C : Array Value} {w3 : World} {u : T} (j : Nat) (v : Value) (w w' : World) (h : R13 q2 q8 gb nn vc i d C w3 u j v w) (hb : Below w.heap.size w w') : R13 q2 q8 gb nn vc i d C w3 u j v w' := by
  match j, h with
  | 0, h | 1, h | 2, h | 3, h | 4, h | 5, h | 6, h | 8, h | 9, h => exact h
  | 7, h =>
    obtain ⟨c, h1, h2, h3⟩ := h
    exact ⟨c, h1, h2, h3.frame (fun k _ hs => hb.block k hs) (fun _ h _ => h)⟩
  | _ + 10, h => trivial
theorem ld_v1 {w : World} {b : Nat} {y0 y1 y2 y3 y4 y5 : Value} (h : w.heap[b]? = some (.cells #[y0, y1, y2, y3, y4, y5] 49 (0, 0))) : (Instr.loadAt 28 (.pointer (some ⟨b, 1, none⟩))).run Tryz.prog w = .ok (.agg #[y1, y2, y3, y4, y5]) w := by
  have hr : w.rangeAt b 1 [y1, y2, y3, y4, y5] := fun j v hj => by
    simp only [World.cell?, h]
    match j, hj with
    | 0, hj | 1, hj | 2, hj | 3, hj | 4, hj => simpa using hj
    | _ + 5, hj => simp at hj
  have hl := run_loadVar_mid (P := Tryz.prog) w b 1 28 [y1, y2, y3, y4, y5] _ hr Tryz.underlying28 rfl (by kernel_rfl)
  simp only [Instr.loadAt, Instr.sureAddr, Sem.run_bind, Sem.run_pure, Result.andThen_ok, hl]
end Go.Proofs.YtbemaloaobeblaaGreatDoor

namespace Go.Proofs.YtbemaloaobeblaaGreatDoor
open Go.RowKit Go.Shelf
attribute [local go_sem] Oper.semAt_some

theorem wpListIn_ldm {F : Fence} {n : Nat} {ops : Array Oper} {rest : List Oper} {op : Oper} {a : Act} {w : World} {Q : Exit → Act → World → Prop} (hgd : op.guard = none) (ty : TypeId) (x : Operand) (ho : op.op = .load ty x)
    (b o : Nat) (hx : a.eval x = .pointer (some ⟨b, o, none⟩)) (cs : List Value) (d : TypeDesc) (hc : w.rangeAt b o cs) (hu : Tryz.prog.underlying ty = some d) (hd : d.isRow = true) (hi : (Tryz.prog.info? ty).map (·.size) = some cs.length)
    (h : wpListIn F n Tryz.prog ops Q rest (a.put op.dst (.agg cs.toArray)) w) : wpListIn F n Tryz.prog ops Q (op :: rest) a w := by
  refine wpListIn_plain hgd fun K hK => ?_
  unfold Oper.wpIn
  refine ⟨by simp [Oper.about, ho], ?_⟩
  rw [Oper.semAt_plain F _ _ (by rw [ho]; intro c hc'; cases hc')]
  unfold execOp
  simp only [ho, hx, Instr.loadAt, Instr.sureAddr, Sem.run_bind, Sem.run_pure, Result.andThen_ok, run_loadVar_mid w b o ty cs d hc hu hd hi]
  exact hK _ _ h
theorem wpListIn_str {F : Fence} {n : Nat} {ops : Array Oper} {rest : List Oper} {o : Oper} {a : Act} {w : World} {Q : Exit → Act → World → Prop} (hgd : o.guard = none) (ty : TypeId) (x y : Operand) (ho : o.op = .store ty x y)
    (g : Nat) (cells : Array Value) (hx : a.eval x = .pointer (some ⟨g, 0, none⟩)) (hy : a.eval y = .agg cells) (t : TypeId) (old : Array Value) (hg : w.heap[g]? = some (.cells old t (0, 0))) (hi : (Tryz.prog.info? ty).map (·.size) = some cells.size)
    (hold : old.size = cells.size) (h1 : cells.all (·.oneCell') = true) (h : wpListIn F n Tryz.prog ops Q rest (a.put o.dst undef) (w.setRow g cells)) : wpListIn F n Tryz.prog ops Q (o :: rest) a w := by
  refine wpListIn_plain hgd fun K hK => ?_
  unfold Oper.wpIn
  refine ⟨by simp [Oper.about, ho], ?_⟩
  rw [Oper.semAt_plain F _ _ (by rw [ho]; intro c hc'; cases hc')]
  unfold execOp
  simp only [ho, hx, hy, Instr.storeAt, Instr.sureAddr, Sem.run_bind, Sem.run_pure, Result.andThen_ok, run_storeVar_row w g t ty old cells hg hi hold h1]
  exact hK _ _ h
def hnd (c : List Value) : Value × Value := (c.headD undef, .agg c.tail.toArray)
theorem hnd_len (cp : List (List Value)) : (cp.map hnd).length = cp.length := by simp
set_option maxHeartbeats 400000 in
theorem pairs_d (c : Array Value) (w : World) : Calls Tryz.prog 43 #[.agg c] w fun e w' => e = .returned (.func (.func 77) #[] #[.pointer (some ⟨w.heap.size, 0, none⟩)]) ∧ w' = w.alloc (.cells c 28) := by
  go_enter Tryz.func43, Tryz.ntmps43
  go_wp2
  go_ret
  exact ⟨rfl, rfl⟩
set_option maxRecDepth 100000 in
set_option maxHeartbeats 4000000 in
theorem pairs_seq {F : Nat → Prop} {w0 w : World} {bx : Nat} {ki : Int} {s : Value} {sl sp : Value} {cp : List (List Value)} (hn : cp.length ≤ 1000000) (h : RwA F w0 49 6 sp cp) (hon : ∀ c ∈ cp, c.all (·.oneCell') = true) (hbw : Below w0.heap.size w0 w)
    (hbx : w.heap[bx]? = some (.cells #[.int .i64 5, .int .i64 ki, s, sl, sp] 28 (0, 0))) : SeqY 77 #[.pointer (some ⟨bx, 0, none⟩)] (cp.map hnd) (fun j => j < w0.heap.size ∨ j = bx) w := by
  intro l J Jx W hW hJ hJx hY h0
  have hxl := (Array.getElem?_eq_some_iff.1 hbx).1
  have hbW := (hW.block bx hxl).trans hbx
  have c0 : W.cell? ⟨bx, 0, none⟩ = some (.int .i64 5) := by simp only [World.cell?, hbW]; rfl
  have c4 : W.cell? ⟨bx, 4, none⟩ = some sp := by simp only [World.cell?, hbW]; rfl
  have hB0 : Below w0.heap.size w0 W := hbw.trans (hW.mono hbw.size)
  obtain ⟨va, vc, rfl⟩ : ∃ va vc, sp = .slice va cp.length vc := by
    obtain ⟨_, ⟨a, cap, h1, h2⟩ | ⟨b, o, cap, cur, fz, h1, _⟩⟩ := h
    · exact ⟨a, cap, by rw [h1, h2]; rfl⟩
    · exact ⟨_, cap, h1⟩
  rw [hnd_len] at *
  have hXK : Kx W.heap.size (fun j => j < w0.heap.size ∨ j = bx) W W := Kx.refl _ _ _
  replace h := hide1 h
  replace hB0 := hide1 hB0
  replace hY := hide1 hY
  replace hbW := hide1 hbW
  replace hJ := hide1 hJ
  replace hon := hide1 hon
  show CallsIn Fence.wide 4 Tryz.prog 77 #[.func (.yield l) #[] #[], .pointer (some ⟨bx, 0, none⟩)] W _
  refine callsIn_of_wp Tryz.func77 rfl trivial ?_ rfl
  simp only [Tryz.ntmps77, List.size_toArray, List.length_cons, List.length_nil, Nat.reduceAdd, Nat.reduceSub, Array.replicate_succ, Array.replicate_zero, List.push_toArray, List.append_toArray, List.nil_append, List.cons_append]
  clear hbx
  gi_wp2
  gi_loopw [11] (fun x wr => ∃ k : Nat, x = .int .i64 (k : Nat) ∧ k ≤ cp.length ∧ J k wr ∧ Hid (Kx W.heap.size (fun j => j < w0.heap.size ∨ j = bx) W wr)) (fun x _ => cp.length - (intOf x).toNat)
  case atStart => exact ⟨0, rfl, by omega, h0, hide1 hXK⟩
  case round =>
    obtain ⟨k, rfl, hkn, hJk, hK⟩ := hrel
    by_cases hlt : k < cp.length
    · obtain ⟨x, hx⟩ : ∃ x, cp[k]? = some x := ⟨_, List.getElem?_eq_getElem hlt⟩
      have hx6 := h.out.1 x (List.mem_of_getElem? hx)
      have hox := hon.out x (List.mem_of_getElem? hx)
      obtain ⟨b, o, cap, hve, -, hbl, hr⟩ := h.out.at hx
      have hva : va = some ⟨b, o, none⟩ := by cases hve; rfl
      subst hva
      have hy := hY.out k (by simpa using hlt)
      have hit : (cp.map hnd)[k]'(by simpa using hlt) = hnd x := by
        rw [List.getElem_map]
        congr 1
        have := List.getElem?_eq_getElem hlt
        rw [hx] at this
        exact (Option.some.inj this).symm
      rw [hit] at hy
      obtain ⟨x0, x1, x2, x3, x4, x5, rfl⟩ := arr6 hx6
      have hblk : wr.heap[b]? = w0.heap[b]? := by
        have h1 := hB0.out.block b hbl
        obtain ⟨ob, hob⟩ : ∃ ob, w0.heap[b]? = some ob := ⟨_, Array.getElem?_eq_getElem hbl⟩
        rw [hob] at h1 ⊢
        exact hK.out.same b ob h1 (.inr (.inl hbl))
      have hr2 : wr.rangeAt b (o + k * 6) [x0, x1, x2, x3, x4, x5] := fun j u hj => by
        rw [World.cell?_of_block (w := w0) hblk]
        exact hr j u hj
      have hr6 : (wr.alloc (.cells #[.string ⟨#[]⟩, .int .i64 0, .int .i64 0, .string ⟨#[]⟩, .slice none 0 0, .slice none 0 0] 49)).heap[wr.heap.size]? = some (.cells #[.string ⟨#[]⟩, .int .i64 0, .int .i64 0, .string ⟨#[]⟩, .slice none 0 0, .slice none 0 0] 49 (0, 0)) := by
        show (wr.heap.push _)[wr.heap.size]? = _
        rw [Array.getElem?_push, if_pos rfl]
      have h6 := setRow_heap (wr.alloc (.cells #[.string ⟨#[]⟩, .int .i64 0, .int .i64 0, .string ⟨#[]⟩, .slice none 0 0, .slice none 0 0] 49)) wr.heap.size _ #[x0, x1, x2, x3, x4, x5] _ _ hr6
      have hal : ∀ k, k < wr.heap.size → ((wr.alloc (.cells #[.string ⟨#[]⟩, .int .i64 0, .int .i64 0, .string ⟨#[]⟩, .slice none 0 0, .slice none 0 0] 49)).setRow wr.heap.size #[x0, x1, x2, x3, x4, x5]).heap[k]? = wr.heap[k]? := fun k hk => (setRow_other _ _ k _ (by omega)).trans (by
        show (wr.heap.push _)[k]? = _
        rw [Array.getElem?_push, if_neg (by omega)])
      have hb4 : Below wr.heap.size wr ((wr.alloc (.cells #[.string ⟨#[]⟩, .int .i64 0, .int .i64 0, .string ⟨#[]⟩, .slice none 0 0, .slice none 0 0] 49)).setRow wr.heap.size #[x0, x1, x2, x3, x4, x5]) := ⟨rfl, rfl, rfl, by simp [World.setRow], hal⟩
      have hJ4 : J k ((wr.alloc (.cells #[.string ⟨#[]⟩, .int .i64 0, .int .i64 0, .string ⟨#[]⟩, .slice none 0 0, .slice none 0 0] 49)).setRow wr.heap.size #[x0, x1, x2, x3, x4, x5]) := hJ.out k wr _ none hJk ⟨hb4.os, hb4.tape, hb4.output, hb4.size, fun j hj _ => hb4.block j hj⟩ (fun _ e => by cases e)
      have hK4 : Hid (Kx W.heap.size (fun j => j < w0.heap.size ∨ j = bx) W ((wr.alloc (.cells #[.string ⟨#[]⟩, .int .i64 0, .int .i64 0, .string ⟨#[]⟩, .slice none 0 0, .slice none 0 0] 49)).setRow wr.heap.size #[x0, x1, x2, x3, x4, x5])) := hide1 (hK.out.trans (Kx.below hb4))
      have l0 : ((wr.alloc (.cells #[.string ⟨#[]⟩, .int .i64 0, .int .i64 0, .string ⟨#[]⟩, .slice none 0 0, .slice none 0 0] 49)).setRow wr.heap.size #[x0, x1, x2, x3, x4, x5]).cell? ⟨wr.heap.size, 0, none⟩ = some x0 := by simp only [World.cell?, h6]; rfl
      have l1 : ((wr.alloc (.cells #[.string ⟨#[]⟩, .int .i64 0, .int .i64 0, .string ⟨#[]⟩, .slice none 0 0, .slice none 0 0] 49)).setRow wr.heap.size #[x0, x1, x2, x3, x4, x5]).cell? ⟨wr.heap.size, 1, none⟩ = some x1 := by simp only [World.cell?, h6]; rfl
      have l2 : ((wr.alloc (.cells #[.string ⟨#[]⟩, .int .i64 0, .int .i64 0, .string ⟨#[]⟩, .slice none 0 0, .slice none 0 0] 49)).setRow wr.heap.size #[x0, x1, x2, x3, x4, x5]).cell? ⟨wr.heap.size, 2, none⟩ = some x2 := by simp only [World.cell?, h6]; rfl
      have l3 : ((wr.alloc (.cells #[.string ⟨#[]⟩, .int .i64 0, .int .i64 0, .string ⟨#[]⟩, .slice none 0 0, .slice none 0 0] 49)).setRow wr.heap.size #[x0, x1, x2, x3, x4, x5]).cell? ⟨wr.heap.size, 3, none⟩ = some x3 := by simp only [World.cell?, h6]; rfl
      have l4 : ((wr.alloc (.cells #[.string ⟨#[]⟩, .int .i64 0, .int .i64 0, .string ⟨#[]⟩, .slice none 0 0, .slice none 0 0] 49)).setRow wr.heap.size #[x0, x1, x2, x3, x4, x5]).cell? ⟨wr.heap.size, 4, none⟩ = some x4 := by simp only [World.cell?, h6]; rfl
      have l5 : ((wr.alloc (.cells #[.string ⟨#[]⟩, .int .i64 0, .int .i64 0, .string ⟨#[]⟩, .slice none 0 0, .slice none 0 0] 49)).setRow wr.heap.size #[x0, x1, x2, x3, x4, x5]).cell? ⟨wr.heap.size, 5, none⟩ = some x5 := by simp only [World.cell?, h6]; rfl
      have hyy := hy _ hJ4
      replace hox := hide1 hox
      replace h6 := hide1 h6
      obtain ⟨fn, tmps, assign, body, hyr, hR⟩ := hyy
      simp only [hnd, List.headD_cons, List.tail_cons] at hyr
      clear hb4 hJ4 hJk hK hr hve hx hit hy hal hblk hx6
      gi_wp2_with (first | refine wpListIn_ldm rfl 49 (.tmp 13) rfl b (o + k * 6) rfl [x0, x1, x2, x3, x4, x5] _ hr2 Tryz.underlying49 rfl (by kernel_rfl) ?_ | refine wpListIn_str rfl 49 (.tmp 4) (.tmp 14) rfl wr.heap.size #[x0, x1, x2, x3, x4, x5] rfl rfl 49 _ hr6 (by kernel_rfl) rfl (by simpa using hox.out) ?_)
      refine hR.mono ?_
      rintro e' W5 (⟨rfl, hJ5, hk5⟩ | ⟨rfl, hJx5, hk5⟩)
      · have hK5 := hide1 (hK4.out.trans hk5)
        clear hk5
        gi_wp2
        go_roundw
        case rel => exact ⟨k + 1, rfl, by omega, hJ5, hK5⟩
        case measure => simp [intOf]; omega
      · gi_wp2
        exact bodyPost_ret (results_none rfl _ _ _) rfl ⟨⟨_, rfl⟩, .inr ⟨k, hlt, hJx5⟩⟩
    · have hke : k = cp.length := by omega
      subst hke
      gi_wp2
      exact bodyPost_end (results_none rfl _ _ _) rfl ⟨⟨_, rfl⟩, .inl hJk⟩
attribute [local go_sem] Oper.semAt_some

structure Gb (w : World) (n : List UInt8) (c : Array Value) (b : Bool) (W : World) : Prop where
  bw : Below w.heap.size w W
  b3 : W.heap[w.heap.size + 1]? = some (.cells #[.string (st n)] 9 (0, 0))
  b4 : W.heap[w.heap.size + 2]? = some (.cells c 28 (0, 0))
  b5 : W.heap[w.heap.size + 3]? = some (.cells #[.bool b] 4 (0, 0))
theorem Gb.keep {w W W' : World} {n : List UInt8} {c : Array Value} {b : Bool} (h : Gb w n c b W) (hk : ∀ j, j < W.heap.size → j < w.heap.size + 4 → W'.heap[j]? = W.heap[j]?) (ho : W'.os = W.os) (ht : W'.tape = W.tape) (hu : W'.output = W.output) (hz : W.heap.size ≤ W'.heap.size) : Gb w n c b W' := by
  have l3 := (Array.getElem?_eq_some_iff.1 h.b3).1
  have l4 := (Array.getElem?_eq_some_iff.1 h.b4).1
  have l5 := (Array.getElem?_eq_some_iff.1 h.b5).1
  exact ⟨⟨ho.trans h.bw.os, ht.trans h.bw.tape, hu.trans h.bw.output, Nat.le_trans h.bw.size hz, fun j hj => (hk j (by omega) (by omega)).trans (h.bw.block j hj)⟩, (hk _ l3 (by omega)).trans h.b3, (hk _ l4 (by omega)).trans h.b4, (hk _ l5 (by omega)).trans h.b5⟩
theorem Gb.own {w W W' : World} {n : List UInt8} {c : Array Value} {b : Bool} {row : Option Nat} (h : Gb w n c b W) (hg : W.grownBy W' row) (hr : ∀ r, row = some r → ∃ o : Obj, W.heap[r]? = some o ∧ o.isCells = false ∧ w.heap.size ≤ r) : Gb w n c b W' := by
  have hne : ∀ j cc t, W.heap[j]? = some (.cells cc t (0, 0)) → some j ≠ row := fun j cc t hj e => by
    obtain ⟨o, ho, hc, _⟩ := hr j e.symm
    rw [hj] at ho; cases ho; cases hc
  refine ⟨⟨hg.os.trans h.bw.os, hg.tape.trans h.bw.tape, hg.output.trans h.bw.output, Nat.le_trans h.bw.size hg.size, fun j hj => (hg.block j (Nat.lt_of_lt_of_le hj h.bw.size) (fun e => ?_)).trans (h.bw.block j hj)⟩, (hg.block _ (Array.getElem?_eq_some_iff.1 h.b3).1 (hne _ _ _ h.b3)).trans h.b3, (hg.block _ (Array.getElem?_eq_some_iff.1 h.b4).1 (hne _ _ _ h.b4)).trans h.b4, (hg.block _ (Array.getElem?_eq_some_iff.1 h.b5).1 (hne _ _ _ h.b5)).trans h.b5⟩
  obtain ⟨o, ho, hc, hl⟩ := hr j e.symm
  omega
theorem blw_done {w W : World} {D : Nat} {o o' : Obj} (h : Below w.heap.size w W) (hD : w.heap.size ≤ D) (ho : W.heap[D]? = some o) : Below w.heap.size w (W.putObj D o') :=
  h.trans ((Below.refl _ W).grown (grownBy_putObj' W D o') (by have := (Array.getElem?_eq_some_iff.1 ho).1; omega) (fun k e => by cases e; exact hD))
theorem Kx.row {h b : Nat} {P : Nat → Prop} {W0 W : World} (x : Kx h P W0 W) (c : Array Value) (hb : b < h) (hP : ¬ P b) : Kx h P W0 (W.setRow b c) := ⟨by simpa [World.setRow] using x.size, fun j ob h1 h2 => (setRow_other W b j c (by rintro rfl; rcases h2 with h2 | h2 <;> first | omega | exact hP h2)).trans (x.same j ob h1 h2)⟩
theorem bsa_new {w : World} {C : Array Value} {l : List UInt8} (h : C.toList = l.map fun x => .int .u8 (x.toNat : Nat)) (n : Nat) (hn : l.length = n) (fz : Nat × Nat) : BsA (w.alloc (.cells C 5 fz)) (.slice (some ⟨w.heap.size, 0, none⟩) n n) l := by
  subst hn
  refine ⟨_, l.length, rfl, .inr ⟨w.heap.size, 0, rfl, by simp, fun j x hj => ?_⟩⟩
  have hb : (w.alloc (.cells C 5 fz)).heap[w.heap.size]? = some (.cells C 5 fz) := by
    show (w.heap.push _)[w.heap.size]? = _
    rw [Array.getElem?_push, if_pos rfl]
  simp only [World.cell?, hb]
  show C[0 + j]? = _
  rw [Nat.zero_add, ← Array.getElem?_toList, h, List.getElem?_map, hj]; rfl
end Go.Proofs.YtbemaloaobeblaaGreatDoor

namespace Go.Proofs.YtbemaloaobeblaaGreatDoor
open Go.RowKit

def ht : Nat → T → Prop
  | 0, _ => False
  | n + 1, .mk _ _ _ l p => (∀ t ∈ l, ht n t) ∧ ∀ q ∈ p, ht n q.2
theorem ht_mono : ∀ {n m : Nat} {t : T}, n ≤ m → ht n t → ht m t
  | 0, _, _, _, h => h.elim
  | n + 1, 0, _, hm, _ => absurd hm (by omega)
  | n + 1, m + 1, .mk _ _ _ l p, hm, h => ⟨fun t ht' => ht_mono (by omega) (h.1 t ht'), fun q hq => ht_mono (by omega) (h.2 q hq)⟩
theorem ht_all {α : Type} {f : α → T} : ∀ (l : List α), (∀ t ∈ l, ∃ n, ht n (f t)) → ∃ n, ∀ t ∈ l, ht n (f t)
  | [], _ => ⟨0, by simp⟩
  | x :: r, h => by
    obtain ⟨a, ha⟩ := h x (by simp)
    obtain ⟨b, hb⟩ := ht_all r (fun t ht => h t (by simp [ht]))
    refine ⟨max a b, fun t ht => ?_⟩
    rcases List.mem_cons.1 ht with rfl | ht
    · exact ht_mono (Nat.le_max_left _ _) ha
    · exact ht_mono (Nat.le_max_right _ _) (hb t ht)
theorem VA.ht {F : Nat → Prop} {w : World} {t : T} {c : List Value} (h : VA F w t c) : ∃ n, ht n t := by
  induction h with
  | @mk k i s l p sl sp cl cp r1 r2 e1 e2 _ _ _ i1 i2 =>
    obtain ⟨a, ha⟩ := ht_all (f := id) l (fun t ht => by
      obtain ⟨j, hj, rfl⟩ := List.mem_iff_getElem.1 ht
      exact i1 j _ _ (List.getElem?_eq_getElem hj) (List.getElem?_eq_getElem (by omega)))
    obtain ⟨b, hb⟩ := ht_all (f := (·.2)) p (fun t ht => by
      obtain ⟨j, hj, rfl⟩ := List.mem_iff_getElem.1 ht
      exact i2 j _ _ (List.getElem?_eq_getElem hj) (List.getElem?_eq_getElem (by omega)))
    exact ⟨max a b + 1, fun t ht => ht_mono (Nat.le_max_left _ _) (ha t ht), fun q hq => ht_mono (Nat.le_max_right _ _) (hb q hq)⟩
def mnL (f : T → Nat → Nat) (last : Nat) : List T → Nat → Nat
  | [], n => n
  | t :: r, n => if n ≤ last then mnL f last r (n + f t (last - n)) else n
def mny : Nat → T → Nat → Nat
  | 0, _, _ => 1
  | h + 1, .mk _ _ _ l p, last => mnL (mny h) last (p.map (·.2)) (mnL (mny h) last l 1)
theorem mnL_stop {f : T → Nat → Nat} {last n : Nat} (h : last < n) : ∀ l, mnL f last l n = n
  | [] => rfl
  | t :: r => by unfold mnL; rw [if_neg (by omega)]
theorem mnL_le {f : T → Nat → Nat} {last : Nat} (hf : ∀ t k, f t k ≤ k + 1) : ∀ (l : List T) (n : Nat), n ≤ last + 1 → mnL f last l n ≤ last + 1
  | [], n, h => h
  | t :: r, n, h => by
    unfold mnL
    split
    · have := hf t (last - n)
      exact mnL_le hf r _ (by omega)
    · omega
theorem mny_le : ∀ (h : Nat) (t : T) (last : Nat), mny h t last ≤ last + 1
  | 0, _, last => by unfold mny; omega
  | h + 1, .mk _ _ _ l p, last => by
    unfold mny
    exact mnL_le (mny_le h) _ _ (mnL_le (mny_le h) _ _ (by omega))
theorem mnL_ge {f : T → Nat → Nat} {last : Nat} : ∀ (l : List T) (n : Nat), n ≤ mnL f last l n
  | [], n => Nat.le_refl _
  | t :: r, n => by
    unfold mnL
    split
    · exact Nat.le_trans (Nat.le_add_right _ _) (mnL_ge r _)
    · exact Nat.le_refl _
theorem mny_pos : ∀ (h : Nat) (t : T) (last : Nat), 1 ≤ mny h t last
  | 0, _, _ => by unfold mny; exact Nat.le_refl _
  | h + 1, .mk _ _ _ l p, last => by
    unfold mny
    exact Nat.le_trans (mnL_ge l 1) (mnL_ge _ _)
theorem mnL_drop {f : T → Nat → Nat} {last n i : Nat} {l : List T} {t : T} (hi : l[i]? = some t) : mnL f last (l.drop i) n = if n ≤ last then mnL f last (l.drop (i + 1)) (n + f t (last - n)) else n := by
  have hil := (List.getElem?_eq_some_iff.1 hi).1
  rw [List.drop_eq_getElem_cons hil]
  have : l[i] = t := (List.getElem?_eq_some_iff.1 hi).2
  rw [this]
  rfl
set_option maxHeartbeats 8000000 in
set_option maxRecDepth 100000 in
theorem many_s {h last : Nat} (hlast : last ≤ 1000)
    (ih : ∀ {F : Nat → Prop} {w : World} {t : T} {c : List Value} {k : Nat}, ht h t → k ≤ 1000 → VA F w t c → Calls Tryz.prog 35 #[.agg c.toArray, .int .i64 (k : Nat)] w fun e w' => e = .returned (.int .i64 (mny h t k : Nat)) ∧ Below w.heap.size w w')
    {F : Nat → Prop} {w : World} {t : T} {c : List Value} (hh : ht (h + 1) t) (hv : VA F w t c) : Calls Tryz.prog 35 #[.agg c.toArray, .int .i64 (last : Nat)] w fun e w' => e = .returned (.int .i64 (mny (h + 1) t last : Nat)) ∧ Below w.heap.size w w' := by
  cases hv with
  | @mk k ki s l p sl sp cl cp r1 r2 e1 e2 hl hp1 hp2 =>
    obtain ⟨hh1, hh2⟩ := hh
    obtain ⟨sa, sc, rfl⟩ : ∃ va vc, sl = .slice va cl.length vc := by
      obtain ⟨_, ⟨a, cap, h1, h2⟩ | ⟨b, o, cap, cur, fz, h1, _⟩⟩ := r1
      · exact ⟨a, cap, by rw [h1, h2]; rfl⟩
      · exact ⟨_, cap, h1⟩
    obtain ⟨pa, pc, rfl⟩ : ∃ va vc, sp = .slice va cp.length vc := by
      obtain ⟨_, ⟨a, cap, h1, h2⟩ | ⟨b, o, cap, cur, fz, h1, _⟩⟩ := r2
      · exact ⟨a, cap, by rw [h1, h2]; rfl⟩
      · exact ⟨_, cap, h1⟩
    obtain ⟨wb, hwb⟩ : ∃ wb, wb = w.alloc (.cells #[.int .i64 k, .int .i64 ki, .string (st s), .slice sa cl.length sc, .slice pa cp.length pc] 28) := ⟨_, rfl⟩
    have hb0 : Below w.heap.size w wb := by rw [hwb]; exact (Below.refl _ _).alloc (Nat.le_refl _) _
    have hbx : wb.heap[w.heap.size]? = some (.cells #[.int .i64 k, .int .i64 ki, .string (st s), .slice sa cl.length sc, .slice pa cp.length pc] 28 (0, 0)) := by
      rw [hwb]
      show (w.heap.push _)[w.heap.size]? = _
      rw [Array.getElem?_push, if_pos rfl]
    have hsb : wb.heap.size = w.heap.size + 1 := by rw [hwb]; simp
    have hmL := mnL_le (mny_le h) (last := last) l 1 (by omega)
    have hm : Hid (mny (h + 1) (.mk k ki s l p) last = mnL (mny h) last (p.map (·.2)) (mnL (mny h) last l 1)) := hide1 rfl
    replace hb0 := hide1 hb0
    replace hbx := hide1 hbx
    replace hsb := hide1 hsb
    replace e1 := hide1 e1
    replace e2 := hide1 e2
    generalize mny (h + 1) (.mk k ki s l p) last = M at *
    go_enter Tryz.func35, Tryz.ntmps35
    go_wp2_with fail
    rw [← hwb]
    go_loopw [5, 6] (fun a x wr => ∃ (n i : Nat), a = .int .i64 (n : Nat) ∧ x = .int .i64 (i : Nat) ∧ i ≤ cl.length ∧ i + 1 ≤ n ∧ n ≤ last + 1 ∧ Hid (mnL (mny h) last (l.drop i) n = mnL (mny h) last l 1) ∧ Hid (Below wb.heap.size wb wr)) (fun _ x _ => cl.length - (intOf x).toNat)
    case atStart => exact ⟨1, 0, rfl, rfl, by omega, by omega, by omega, hide1 rfl, hide1 (Below.refl _ _)⟩
    case round =>
      obtain ⟨n, i, rfl, rfl, hin, hin2, hnl, hme, hbw⟩ := hrel
      have hbr := (hbw.out.block w.heap.size (by have := hsb.out; omega)).trans hbx.out
      have c3 : wr.cell? ⟨w.heap.size, 3, none⟩ = some (.slice sa cl.length sc) := by simp only [World.cell?, hbr]; rfl
      have c4 : wr.cell? ⟨w.heap.size, 4, none⟩ = some (.slice pa cp.length pc) := by simp only [World.cell?, hbr]; rfl
      have hB : Hid (Below w.heap.size w wr) := hide1 (hb0.out.trans (hbw.out.mono hb0.out.size))
      by_cases hlt : i < cl.length ∧ n ≤ last
      · obtain ⟨hlt, hnl2⟩ := hlt
        obtain ⟨x, hx⟩ : ∃ x, cl[i]? = some x := ⟨_, List.getElem?_eq_getElem hlt⟩
        obtain ⟨u, hu⟩ : ∃ u, l[i]? = some u := ⟨_, List.getElem?_eq_getElem (by have := e1.out; omega)⟩
        have hxu := hl i u x hu hx
        obtain ⟨b, o, cap, hve, -, hbl, hr⟩ := r1.at hx
        have hva : sa = some ⟨b, o, none⟩ := by cases hve; rfl
        subst hva
        have hx5 := r1.1 x (List.mem_of_getElem? hx)
        obtain ⟨x0, x1, x2, x3, x4, rfl⟩ : ∃ x0 x1 x2 x3 x4, x = [x0, x1, x2, x3, x4] := by
          match x, hx5 with
          | [x0, x1, x2, x3, x4], _ => exact ⟨x0, x1, x2, x3, x4, rfl⟩
        have hr2 : wr.rangeAt b (o + i * 5) [x0, x1, x2, x3, x4] := fun j v hj => by
          rw [World.cell?_of_block (w := w) (hB.out.block b hbl)]
          exact hr j v hj
        have hc := ih (k := last - n) (hh1 u (List.mem_of_getElem? hu)) (by omega) (hxu.frame (w' := wr) (G := F) (fun j _ hj => hB.out.block j hj) (fun _ h _ => h))
        have hms := mnL_drop (f := mny h) (last := last) (n := n) hu
        rw [hme.out, if_pos hnl2] at hms
        have hmu := mny_le h u (last - n)
        have hmp := mny_pos h u (last - n)
        rw [show ((last - n : Nat) : Int) = (last : Int) - (n : Int) by omega] at hc
        generalize mny h u (last - n) = m at *
        replace hms := hide1 hms
        clear hxu hve hr hx hx5 hme
        go_wp2_with (refine wpList_load_mid rfl 28 (.tmp 24) rfl b (o + i * 5) rfl [x0, x1, x2, x3, x4] _ hr2 Tryz.underlying28 rfl (by kernel_rfl) ?_)
        refine hc.mono ?_
        rintro e w2 ⟨rfl, b2⟩
        have hb2 := hide1 (hbw.out.trans (b2.mono hbw.out.size))
        clear hc b2 hbw hB hr2 c3 c4 hbr
        go_wp2
        go_roundw
        case rel => exact ⟨n + m, i + 1, by congr 1, rfl, by omega, by omega, by omega, hide1 hms.out.symm, hb2⟩
        case measure => simp [intOf]; omega
      · have hn1 : n = mnL (mny h) last l 1 := by
          rw [← hme.out]
          by_cases h1 : n ≤ last
          · have : i = cl.length := by omega
            rw [List.drop_of_length_le (by have := e1.out; omega)]; rfl
          · rw [mnL_stop (by omega)]
        rw [← hn1] at hm
        have hin3 : n ≤ 1001 := by omega
        obtain ⟨n1, hn1e⟩ : ∃ n1, n1 = n := ⟨_, rfl⟩
        have hd1 : decide ((i : Int) < (cl.length : Int)) = true → decide ((n : Int) ≤ (last : Int)) = false := fun h1 => by
          simp only [decide_eq_true_eq] at h1
          exact decide_eq_false (by omega)
        clear hme hl r1 hh1 hn1
        by_cases hq : (i : Int) < (cl.length : Int)
        · have hd2 := hd1 (decide_eq_true hq)
          have hq3 : ¬ (n : Int) ≤ (last : Int) := by omega
          go_wp2_with fail
          go_loopw [5, 7] (fun a x wr => ∃ (n j : Nat), a = .int .i64 (n : Nat) ∧ x = .int .i64 (j : Nat) ∧ j ≤ cp.length ∧ j + 1 ≤ n ∧ n ≤ last + 1 ∧ Hid (mnL (mny h) last ((p.map (·.2)).drop j) n = M) ∧ Hid (Below wb.heap.size wb wr)) (fun _ x _ => cp.length - (intOf x).toNat)
          case atStart => exact ⟨n, 0, rfl, rfl, by omega, by omega, by omega, hide1 hm.out.symm, hbw⟩
          case round =>
            clear hbw hB c3 c4 hbr hin hin2 hnl hin3 hm hd1
            obtain ⟨n, j, rfl, rfl, hjn, hjn2, hnl, hme, hbw⟩ := hrel
            have hbr := (hbw.out.block w.heap.size (by have := hsb.out; omega)).trans hbx.out
            have c4 : wr.cell? ⟨w.heap.size, 4, none⟩ = some (.slice pa cp.length pc) := by simp only [World.cell?, hbr]; rfl
            have hB : Hid (Below w.heap.size w wr) := hide1 (hb0.out.trans (hbw.out.mono hb0.out.size))
            by_cases hlt : j < cp.length ∧ n ≤ last
            · obtain ⟨hlt, hnl2⟩ := hlt
              obtain ⟨x, hx⟩ : ∃ x, cp[j]? = some x := ⟨_, List.getElem?_eq_getElem hlt⟩
              obtain ⟨u, hu⟩ : ∃ u, p[j]? = some u := ⟨_, List.getElem?_eq_getElem (by have := e2.out; omega)⟩
              have hxu := hp2 j u x hu hx
              obtain ⟨b, o, cap, hve, -, hbl, hr⟩ := r2.at hx
              have hva : pa = some ⟨b, o, none⟩ := by cases hve; rfl
              subst hva
              obtain ⟨x0, x1, x2, x3, x4, x5, rfl⟩ := arr6 (r2.1 x (List.mem_of_getElem? hx))
              have hr2 : wr.rangeAt b (o + j * 6 + 1) [x1, x2, x3, x4, x5] := fun q v hj => by
                rw [World.cell?_of_block (w := w) (hB.out.block b hbl)]
                have := hr (q + 1) v (by simpa using hj)
                rw [show o + j * 6 + 1 + q = o + j * 6 + (q + 1) by omega]
                exact this
              have hc := ih (c := [x1, x2, x3, x4, x5]) (k := last - n) (hh2 u (List.mem_of_getElem? hu)) (by omega) (VA.frame (c := [x1, x2, x3, x4, x5]) hxu (w' := wr) (G := F) (fun j _ hj => hB.out.block j hj) (fun _ h _ => h))
              have hms := mnL_drop (f := mny h) (last := last) (n := n) (l := p.map (·.2)) (i := j) (t := u.2) (by rw [List.getElem?_map, hu]; rfl)
              rw [hme.out, if_pos hnl2] at hms
              have hmu := mny_le h u.2 (last - n)
              have hmp := mny_pos h u.2 (last - n)
              rw [show ((last - n : Nat) : Int) = (last : Int) - (n : Int) by omega] at hc
              generalize mny h u.2 (last - n) = m at *
              replace hms := hide1 hms
              clear hxu hve hr hx hme
              go_wp2_with (refine wpList_load_mid rfl 28 (.tmp 48) rfl b (o + j * 6 + 1) rfl [x1, x2, x3, x4, x5] _ hr2 Tryz.underlying28 rfl (by kernel_rfl) ?_)
              refine hc.mono ?_
              rintro e w2 ⟨rfl, b2⟩
              have hb2 := hide1 (hbw.out.trans (b2.mono hbw.out.size))
              clear hc b2 hbw hB hr2 c4 hbr
              go_wp2
              go_roundw
              case rel => exact ⟨n + m, j + 1, by congr 1, rfl, by omega, by omega, by omega, hide1 hms.out.symm, hb2⟩
              case measure => simp [intOf]; omega
            · have hM : M = n := by
                rw [← hme.out]
                by_cases h1 : n ≤ last
                · have : j = cp.length := by omega
                  rw [List.drop_of_length_le (by have := e2.out; simp; omega)]; rfl
                · rw [mnL_stop (by omega)]
              have hfin : Hid ((Ending.returned (.int .i64 (n : Nat)) : Ending) = .returned (.int .i64 (M : Nat)) ∧ Below w.heap.size w wr) := hide1 ⟨by rw [hM], hB.out⟩
              clear hme hM hB hbw hbr
              by_cases hq2 : (j : Int) < (cp.length : Int)
              · have hq3 : ¬ (n : Int) ≤ (last : Int) := by omega
                go_wp2
                go_ret
                exact hfin.out
              · go_wp2
                go_ret
                exact hfin.out
        · skip
          go_wp2_with fail
          go_loopw [5, 7] (fun a x wr => ∃ (n j : Nat), a = .int .i64 (n : Nat) ∧ x = .int .i64 (j : Nat) ∧ j ≤ cp.length ∧ j + 1 ≤ n ∧ n ≤ last + 1 ∧ Hid (mnL (mny h) last ((p.map (·.2)).drop j) n = M) ∧ Hid (Below wb.heap.size wb wr)) (fun _ x _ => cp.length - (intOf x).toNat)
          case atStart => exact ⟨n, 0, rfl, rfl, by omega, by omega, by omega, hide1 hm.out.symm, hbw⟩
          case round =>
            clear hbw hB c3 c4 hbr hin hin2 hnl hin3 hm hd1
            obtain ⟨n, j, rfl, rfl, hjn, hjn2, hnl, hme, hbw⟩ := hrel
            have hbr := (hbw.out.block w.heap.size (by have := hsb.out; omega)).trans hbx.out
            have c4 : wr.cell? ⟨w.heap.size, 4, none⟩ = some (.slice pa cp.length pc) := by simp only [World.cell?, hbr]; rfl
            have hB : Hid (Below w.heap.size w wr) := hide1 (hb0.out.trans (hbw.out.mono hb0.out.size))
            by_cases hlt : j < cp.length ∧ n ≤ last
            · obtain ⟨hlt, hnl2⟩ := hlt
              obtain ⟨x, hx⟩ : ∃ x, cp[j]? = some x := ⟨_, List.getElem?_eq_getElem hlt⟩
              obtain ⟨u, hu⟩ : ∃ u, p[j]? = some u := ⟨_, List.getElem?_eq_getElem (by have := e2.out; omega)⟩
              have hxu := hp2 j u x hu hx
              obtain ⟨b, o, cap, hve, -, hbl, hr⟩ := r2.at hx
              have hva : pa = some ⟨b, o, none⟩ := by cases hve; rfl
              subst hva
              obtain ⟨x0, x1, x2, x3, x4, x5, rfl⟩ := arr6 (r2.1 x (List.mem_of_getElem? hx))
              have hr2 : wr.rangeAt b (o + j * 6 + 1) [x1, x2, x3, x4, x5] := fun q v hj => by
                rw [World.cell?_of_block (w := w) (hB.out.block b hbl)]
                have := hr (q + 1) v (by simpa using hj)
                rw [show o + j * 6 + 1 + q = o + j * 6 + (q + 1) by omega]
                exact this
              have hc := ih (c := [x1, x2, x3, x4, x5]) (k := last - n) (hh2 u (List.mem_of_getElem? hu)) (by omega) (VA.frame (c := [x1, x2, x3, x4, x5]) hxu (w' := wr) (G := F) (fun j _ hj => hB.out.block j hj) (fun _ h _ => h))
              have hms := mnL_drop (f := mny h) (last := last) (n := n) (l := p.map (·.2)) (i := j) (t := u.2) (by rw [List.getElem?_map, hu]; rfl)
              rw [hme.out, if_pos hnl2] at hms
              have hmu := mny_le h u.2 (last - n)
              have hmp := mny_pos h u.2 (last - n)
              rw [show ((last - n : Nat) : Int) = (last : Int) - (n : Int) by omega] at hc
              generalize mny h u.2 (last - n) = m at *
              replace hms := hide1 hms
              clear hxu hve hr hx hme
              go_wp2_with (refine wpList_load_mid rfl 28 (.tmp 48) rfl b (o + j * 6 + 1) rfl [x1, x2, x3, x4, x5] _ hr2 Tryz.underlying28 rfl (by kernel_rfl) ?_)
              refine hc.mono ?_
              rintro e w2 ⟨rfl, b2⟩
              have hb2 := hide1 (hbw.out.trans (b2.mono hbw.out.size))
              clear hc b2 hbw hB hr2 c4 hbr
              go_wp2
              go_roundw
              case rel => exact ⟨n + m, j + 1, by congr 1, rfl, by omega, by omega, by omega, hide1 hms.out.symm, hb2⟩
              case measure => simp [intOf]; omega
            · have hM : M = n := by
                rw [← hme.out]
                by_cases h1 : n ≤ last
                · have : j = cp.length := by omega
                  rw [List.drop_of_length_le (by have := e2.out; simp; omega)]; rfl
                · rw [mnL_stop (by omega)]
              have hfin : Hid ((Ending.returned (.int .i64 (n : Nat)) : Ending) = .returned (.int .i64 (M : Nat)) ∧ Below w.heap.size w wr) := hide1 ⟨by rw [hM], hB.out⟩
              clear hme hM hB hbw hbr
              by_cases hq2 : (j : Int) < (cp.length : Int)
              · have hq3 : ¬ (n : Int) ≤ (last : Int) := by omega
                go_wp2
                go_ret
                exact hfin.out
              · go_wp2
                go_ret
                exact hfin.out
theorem many_d : ∀ (h : Nat) {F : Nat → Prop} {w : World} {t : T} {c : List Value} {k : Nat}, ht h t → k ≤ 1000 → VA F w t c → Calls Tryz.prog 35 #[.agg c.toArray, .int .i64 (k : Nat)] w fun e w' => e = .returned (.int .i64 (mny h t k : Nat)) ∧ Below w.heap.size w w'
  | 0, _, _, _, _, _, hh, _, _ => hh.elim
  | h + 1, _, _, _, _, _, hh, hk, hv => many_s hk (fun h1 h2 h3 => many_d h h1 h2 h3) hh hv
section
variable {P : Program} {Q : Exit → Act → World → Prop}
def rch (l : List Oper) : Nat → Nat → Nat → Bool
  | 0, _, _ => false
  | k + 1, j, i => match l[j]? with
    | some o => o.after.any fun e => Region.binds .any e && (e.on == i || rch l k e.on i)
    | none => false
theorem rch_of {l : List Oper} {D : Nat → Bool} (hcl : ∀ j oj, l[j]? = some oj → D j = true → ∀ e ∈ oj.after, Region.binds .any e = true → D e.on = true) : ∀ (k j i : Nat), rch l k j i = true → D j = true → D i = true
  | 0, _, _, h, _ => by cases h
  | k + 1, j, i, h, hD => by
    unfold rch at h
    cases hj : l[j]? with
    | none => rw [hj] at h; cases h
    | some o =>
      rw [hj] at h
      obtain ⟨e, he, h1⟩ := Array.any_eq_true'.1 h
      simp only [Bool.and_eq_true, Bool.or_eq_true, beq_iff_eq] at h1
      have hDe := hcl j o hj hD e he h1.1
      rcases h1.2 with h2 | h2
      · rw [← h2]; exact hDe
      · exact rch_of hcl k e.on i h2 hDe
def finC (l : List Oper) (fin n : Nat) : Bool := (List.range l.length).all fun i => i == fin || (rch l l.length fin i && (match (l[i]?).bind (·.dst) with
    | some d => decide (d < n) && (List.range l.length).all fun j => j == i || ((l[j]?).bind (·.dst)) != some d
    | none => false))
theorem finC_at {l : List Oper} {fin n : Nat} (h : finC l fin n = true) {i : Nat} {o : Oper} (ho : l[i]? = some o) (hi : i ≠ fin) :
    rch l l.length fin i = true ∧ ∃ d, o.dst = some d ∧ d < n ∧ ∀ j oj, l[j]? = some oj → j ≠ i → oj.dst ≠ some d := by
  have hil := (List.getElem?_eq_some_iff.1 ho).1
  have h1 := List.all_eq_true.1 h i (by simp [hil])
  simp only [ho, Option.bind_some, Bool.or_eq_true, beq_iff_eq, hi, false_or, Bool.and_eq_true] at h1
  refine ⟨h1.1, ?_⟩
  have h3 := h1.2
  cases hd : o.dst with
  | none => rw [hd] at h3; cases h3
  | some d =>
    rw [hd] at h3
    simp only [Bool.and_eq_true, decide_eq_true_eq] at h3
    refine ⟨d, rfl, h3.1, fun j oj hj hne e => ?_⟩
    have h5 := List.all_eq_true.1 h3.2 j (by simp [(List.getElem?_eq_some_iff.1 hj).1])
    simp [hj, hne, e] at h5
def OpG (P : Program) (l : List Oper) (Q : Exit → Act → World → Prop) (o : Oper) (a : Act) (w : World) (K : Act → World → Prop) : Prop :=
  (Region.wanted o (yielded l.toArray a.tmps) = true ∧ o.wp P a w K Q) ∨ (Region.wanted o (yielded l.toArray a.tmps) = false ∧ K (a.put o.dst undef) w)
theorem OpG.plain {l : List Oper} {o : Oper} {a : Act} {w : World} {K : Act → World → Prop} (hg : o.guard = none) (h : o.wp P a w K Q) : OpG P l Q o a w K := .inl ⟨by unfold Region.wanted; rw [hg], h⟩
theorem OpG.want {l : List Oper} {o : Oper} {a : Act} {w : World} {K : Act → World → Prop} {j d : Nat} {b : Bool} (hg : o.guard = some (j, b)) (hd : (l[j]?).bind (·.dst) = some d) (hs : d < a.tmps.size) (hv : a.tmps.getD d undef = .bool b) (h : o.wp P a w K Q) : OpG P l Q o a w K := by
  refine .inl ⟨?_, h⟩
  have ht : a.tmps[d]? = some (.bool b) := by
    rw [Array.getElem?_eq_getElem hs]
    simpa [Array.getD, hs] using hv
  unfold Region.wanted yielded
  rw [hg]
  simp [hd, ht]
theorem OpG.skip {l : List Oper} {o : Oper} {a : Act} {w : World} {K : Act → World → Prop} {j d : Nat} {b : Bool} (hg : o.guard = some (j, b)) (hd : (l[j]?).bind (·.dst) = some d) (hs : d < a.tmps.size) (hv : a.tmps.getD d undef = .bool (!b)) (h : K (a.put o.dst undef) w) : OpG P l Q o a w K := by
  refine .inr ⟨?_, h⟩
  have ht : a.tmps[d]? = some (.bool (!b)) := by
    rw [Array.getElem?_eq_getElem hs]
    simpa [Array.getD, hs] using hv
  unfold Region.wanted yielded
  rw [hg]
  cases b <;> simp [hd, ht]
theorem wp_flowG {l : List Oper} {id : Nat} (fin : Nat) (a0 : Act) (w0 : World) (hm : P.follows .mixedOrders = true) (hac : acycB l.toArray = true) (hfin : finC l fin a0.tmps.size = true) {f : Oper} (hf : l[fin]? = some f)
    (Rr : Nat → Value → World → Prop) (hmono : ∀ i v w w', Rr i v w → Below w.heap.size w w' → Rr i v w')
    (hop : ∀ i o, l[i]? = some o → i ≠ fin → ∀ a w, Below w0.heap.size w0 w → a.tmps.size = a0.tmps.size → (∀ t, wrB l t = false → a.tmps.getD t undef = a0.tmps.getD t undef) → (∀ j oj d, l[j]? = some oj → oj.dst = some d → (∃ e ∈ o.after, Region.binds .any e = true ∧ e.on = j) → Rr j (a.tmps.getD d undef) w) →
      ∀ K : Act → World → Prop, (∀ v w', Below w.heap.size w w' → Rr i v w' → K (a.put o.dst v) w') → OpG P l Q o a w K)
    (hlast : ∀ a w, Below w0.heap.size w0 w → a.defers = a0.defers → a.tmps.size = a0.tmps.size → (∀ t, wrB l t = false → a.tmps.getD t undef = a0.tmps.getD t undef) → (∀ j oj d, l[j]? = some oj → j ≠ fin → oj.dst = some d → Rr j (a.tmps.getD d undef) w) →
      ∀ K : Act → World → Prop, (∀ a' w', Q .normal a' w' → K a' w') → OpG P l Q f a w K) : (Code.region id l.toArray true).wp P Q a0 w0 := by
  have hacyc := acyc_of (ops := l.toArray) hac
  refine wp_region_any hm (wpAny_sym hacyc (fun D a w => ((∀ j, j < l.length → D j = true) ∧ Q .normal a w) ∨ (D fin = false ∧ a.defers = a0.defers ∧ a.tmps.size = a0.tmps.size ∧ Below w0.heap.size w0 w ∧ (∀ t, wrB l t = false → a.tmps.getD t undef = a0.tmps.getD t undef) ∧ (∀ j oj, l[j]? = some oj → D j = true → ∀ e ∈ oj.after, Region.binds .any e = true → D e.on = true) ∧ ∀ j oj d, l[j]? = some oj → D j = true → oj.dst = some d → Rr j (a.tmps.getD d undef) w)) ?_ ?_ _ _ _ _ (by simp) ?_ ?_)
  · intro D a w hI i o ho hD hdep K hK
    have ho : l[i]? = some o := by simpa using ho
    rcases hI with ⟨h1, _⟩ | ⟨h1, hdf, hsz, hb, hsl, hcl, hr⟩
    · rw [h1 i (List.getElem?_eq_some_iff.1 ho).1] at hD; cases hD
    · by_cases hi : i = fin
      · subst hi
        rw [hf] at ho
        cases ho
        have hall : ∀ j, j < l.length → j ≠ i → D j = true := fun j hj hne => by
          obtain ⟨h3, _⟩ := finC_at hfin (List.getElem?_eq_getElem hj) hne
          cases hk : l.length with
          | zero => omega
          | succ k =>
            rw [hk] at h3
            unfold rch at h3
            rw [hf] at h3
            obtain ⟨e, he, h4⟩ := Array.any_eq_true'.1 h3
            simp only [Bool.and_eq_true, Bool.or_eq_true, beq_iff_eq] at h4
            rcases h4.2 with h5 | h5
            · rw [← h5]; exact hdep e he h4.1
            · exact rch_of hcl k e.on j h5 (hdep e he h4.1)
        refine hlast a w hb hdf hsz hsl (fun j oj d hj hne hd => hr j oj d hj (hall j (List.getElem?_eq_some_iff.1 hj).1 hne) hd) K (fun a' w' hq => hK a' w' (.inl ⟨fun j hj => ?_, hq⟩))
        by_cases hji : j = i
        · rw [hji]; exact add1_eq
        · rw [add1_ne hji]; exact hall j hj hji
      · obtain ⟨_, d, hd, hdn, hap⟩ := finC_at hfin ho hi
        have hds : d < a.tmps.size := by rw [hsz]; exact hdn
        refine hop i o ho hi a w hb hsz hsl (fun j oj d' hj hd' ⟨e, he, h3, h4⟩ => hr j oj d' hj (by rw [← h4]; exact hdep e he h3) hd') K (fun v w' hb' hR => hK _ _ (.inr ⟨?_, ?_, ?_, ?_, ?_, ?_, ?_⟩))
        · rw [add1_ne (fun e => hi e.symm)]; exact h1
        · rw [put_df]; exact hdf
        · rw [put_sz]; exact hsz
        · exact hb.trans (hb'.mono hb.size)
        · intro t ht
          rw [hd, put_of hds (fun e => by
            subst e
            have : wrB l t = true := List.any_eq_true.2 ⟨o, List.mem_of_getElem? ho, by simp [hd]⟩
            rw [this] at ht; cases ht)]
          exact hsl t ht
        · intro j oj hj hDj e he h3
          by_cases hji : j = i
          · subst hji
            rw [ho] at hj
            cases hj
            exact add1_mono (hdep e he h3)
          · rw [add1_ne hji] at hDj
            exact add1_mono (hcl j oj hj hDj e he h3)
        · intro j oj d' hj hDj hd'
          by_cases hji : j = i
          · subst hji
            rw [ho] at hj
            cases hj
            rw [hd] at hd'
            cases hd'
            rw [hd, put_at hds]
            exact hR
          · rw [add1_ne hji] at hDj
            rw [hd, put_of hds (fun e => hap j oj hj hji (by rw [hd', e]))]
            exact hmono _ _ _ _ (hr j oj d' hj hDj hd') hb'
  · intro D a w hI hall
    rcases hI with ⟨_, h⟩ | ⟨h1, _⟩
    · exact h
    · rw [hall fin (by simpa using (List.getElem?_eq_some_iff.1 hf).1)] at h1; cases h1
  · exact Nat.le_trans (List.length_filter_le _ _) (by simp)
  · have e : (fun i => (Array.replicate l.toArray.size false).getD i false) = fun _ => false := by
      funext i
      by_cases h : i < l.toArray.size <;> simp [Array.getD]
    rw [e]
    exact .inr ⟨rfl, rfl, rfl, (Below.refl _ _).drew, fun _ _ => rfl, (fun _ _ _ h => absurd h (by simp)), (fun _ _ _ _ h => absurd h (by simp))⟩
end
def exL (f : T → T → Bool) : List T → List T → Bool
  | a :: r, b :: q => f a b && exL f r q
  | _, _ => true
def exP (f : T → T → Bool) : List (List UInt8 × T) → List (List UInt8 × T) → Bool
  | a :: r, b :: q => decide (a.1 = b.1) && (f a.2 b.2 && exP f r q)
  | _, _ => true
def exB : Nat → T → T → Bool
  | 0, _, _ => false
  | h + 1, .mk k i s l p, .mk k' i' s' l' p' => decide (k = k') && (decide (i = i') && (decide (s = s') && (decide (l.length = l'.length) && (decide (p.length = p'.length) && (exL (exB h) l l' && exP (exB h) p p')))))
theorem exL_drop {f : T → T → Bool} {l l' : List T} {i : Nat} {a b : T} (ha : l[i]? = some a) (hb : l'[i]? = some b) : exL f (l.drop i) (l'.drop i) = (f a b && exL f (l.drop (i + 1)) (l'.drop (i + 1))) := by
  obtain ⟨h1, e1⟩ := List.getElem?_eq_some_iff.1 ha
  obtain ⟨h2, e2⟩ := List.getElem?_eq_some_iff.1 hb
  rw [List.drop_eq_getElem_cons h1, List.drop_eq_getElem_cons h2, e1, e2]; rfl
theorem exP_drop {f : T → T → Bool} {l l' : List (List UInt8 × T)} {i : Nat} {a b : List UInt8 × T} (ha : l[i]? = some a) (hb : l'[i]? = some b) : exP f (l.drop i) (l'.drop i) = (decide (a.1 = b.1) && (f a.2 b.2 && exP f (l.drop (i + 1)) (l'.drop (i + 1)))) := by
  obtain ⟨h1, e1⟩ := List.getElem?_eq_some_iff.1 ha
  obtain ⟨h2, e2⟩ := List.getElem?_eq_some_iff.1 hb
  rw [List.drop_eq_getElem_cons h1, List.drop_eq_getElem_cons h2, e1, e2]; rfl
theorem exL_eq {f : T → T → Bool} : ∀ {l l' : List T}, (∀ a ∈ l, ∀ b, f a b = true ↔ a = b) → l.length = l'.length → (exL f l l' = true ↔ l = l')
  | [], [], _, _ => by simp [exL]
  | [], _ :: _, _, h => by simp at h
  | _ :: _, [], _, h => by simp at h
  | a :: r, b :: q, hf, h => by
    rw [exL, Bool.and_eq_true, hf a (by simp), exL_eq (fun x hx => hf x (by simp [hx])) (by simpa using h)]
    simp
theorem exP_eq {f : T → T → Bool} : ∀ {l l' : List (List UInt8 × T)}, (∀ a ∈ l, ∀ b, f a.2 b = true ↔ a.2 = b) → l.length = l'.length → (exP f l l' = true ↔ l = l')
  | [], [], _, _ => by simp [exP]
  | [], _ :: _, _, h => by simp at h
  | _ :: _, [], _, h => by simp at h
  | a :: r, b :: q, hf, h => by
    rw [exP, Bool.and_eq_true, Bool.and_eq_true, decide_eq_true_eq, hf a (by simp), exP_eq (fun x hx => hf x (by simp [hx])) (by simpa using h)]
    obtain ⟨a1, a2⟩ := a
    obtain ⟨b1, b2⟩ := b
    simp [and_assoc]
theorem exB_eq : ∀ {h : Nat} {a b : T}, ht h a → (exB h a b = true ↔ a = b)
  | 0, _, _, h => h.elim
  | h + 1, .mk k i s l p, .mk k' i' s' l' p', ha => by
    unfold exB
    simp only [Bool.and_eq_true, decide_eq_true_eq, T.mk.injEq]
    constructor
    · rintro ⟨h1, h2, h3, h4, h5, h6, h7⟩
      exact ⟨h1, h2, h3, (exL_eq (fun a hm b => exB_eq (ha.1 a hm)) h4).1 h6, (exP_eq (fun a hm b => exB_eq (ha.2 a hm)) h5).1 h7⟩
    · rintro ⟨h1, h2, h3, rfl, rfl⟩
      exact ⟨h1, h2, h3, rfl, rfl, (exL_eq (fun a hm b => exB_eq (ha.1 a hm)) rfl).2 rfl, (exP_eq (fun a hm b => exB_eq (ha.2 a hm)) rfl).2 rfl⟩
theorem ix_oV {g o K cap k : Nat} (hk : k < K) (w : World) : (Instr.indexAt 25 (.slice (some ⟨g, o, none⟩) K cap) (.int .i64 (k : Nat))).run Tryz.prog w = .ok (.pointer (some ⟨g, o + k * 5, none⟩)) w := by
  simp [Instr.indexAt, go_sem, hk]
theorem ix_oP {g o K cap k : Nat} (hk : k < K) (w : World) : (Instr.indexAt 26 (.slice (some ⟨g, o, none⟩) K cap) (.int .i64 (k : Nat))).run Tryz.prog w = .ok (.pointer (some ⟨g, o + k * 6, none⟩)) w := by
  simp [Instr.indexAt, go_sem, hk]
theorem ld_mV {w : World} {b o : Nat} {x0 x1 x2 x3 x4 : Value} (hr : w.rangeAt b o [x0, x1, x2, x3, x4]) : (Instr.loadAt 28 (.pointer (some ⟨b, o, none⟩))).run Tryz.prog w = .ok (.agg #[x0, x1, x2, x3, x4]) w := by
  have hl := run_loadVar_mid (P := Tryz.prog) w b o 28 [x0, x1, x2, x3, x4] _ hr Tryz.underlying28 rfl (by kernel_rfl)
  simp only [Instr.loadAt, Instr.sureAddr, Sem.run_bind, Sem.run_pure, Result.andThen_ok, hl]
theorem ld_s0 {w : World} {b o : Nat} {v : Value} (h1 : w.cell? ⟨b, o, none⟩ = some v) : (Instr.loadAt 9 (.pointer (some ⟨b, o, none⟩))).run Tryz.prog w = .ok v w := by
  simp [Instr.loadAt, Instr.sureAddr, go_sem, h1]
theorem nq_s {s s' : List UInt8} (w : World) : (binOp .neq 9 (.string (st s)) (.string (st s'))).run Tryz.prog w = .ok (.bool (!decide (s = s'))) w := by
  have h := st_eq s s'
  simp [binOp, go_sem, Op.stringOp, ← h]
theorem eg_s {a b : Operand} {s s' : List UInt8} (w : World) : (eqGuard .neq 9 a b (.string (st s)) (.string (st s'))).run Tryz.prog w = .ok () w := by
  simp [eqGuard, go_sem]
def R6 (q2 q3 i : Nat) (v v' : Value) (p1 p2 : Value) (C C' : Array Value) (r : Bool) : Nat → Value → World → Prop
  | 0, v, _ => v = .pointer (some ⟨q2, 3, none⟩)
  | 1, x, _ => x = v
  | 2, v, _ => v = .int .i64 (i : Nat)
  | 3, v, _ => v = p1
  | 4, v, _ => v = .agg C
  | 5, v, _ => v = .pointer (some ⟨q3, 3, none⟩)
  | 6, x, _ => x = v'
  | 7, v, _ => v = .int .i64 (i : Nat)
  | 8, v, _ => v = p2
  | 9, v, _ => v = .agg C'
  | 10, v, _ => v = .bool r
  | _, _, _ => True
theorem R6_mono {q2 q3 i : Nat} {v v' p1 p2 : Value} {C C' : Array Value} {r : Bool} (j : Nat) (x : Value) (w w' : World) (h : R6 q2 q3 i v v' p1 p2 C C' r j x w) (_ : Below w.heap.size w w') : R6 q2 q3 i v v' p1 p2 C C' r j x w' := by
  match j, h with
  | 0, h | 1, h | 2, h | 3, h | 4, h | 5, h | 6, h | 7, h | 8, h | 9, h | 10, h => exact h
  | _ + 11, h => trivial
theorem hgt_ht : ∀ {n : Nat} {t : T}, hgt n t → ht n t
  | 0, _, h => h
  | _ + 1, .mk _ _ _ _ _, h => ⟨fun t ht' => hgt_ht (h.2.2.1 t ht'), fun q hq => hgt_ht (h.2.2.2 q hq)⟩
def Eok (h : Nat) : Prop := ∀ {F G : Nat → Prop} {w : World} {t t' : T} {c c' : List Value}, hgt h t → VA F w t c → VA G w t' c' → Calls Tryz.prog 16 #[.agg c.toArray, .agg c'.toArray] w fun e w' => e = .returned (.bool (exB h t t')) ∧ Below w.heap.size w w'
set_option maxHeartbeats 4000000 in
set_option maxRecDepth 100000 in
theorem ex_s {h : Nat} (ih : Eok h) : Eok (h + 1) := by
  intro F G w t t' c c' hh hv hv'
  cases hv with
  | @mk k ki s l p sl sp cl cp r1 r2 e1 e2 hl hp1 hp2 =>
  cases hv' with
  | @mk k' ki' s' l' p' sl' sp' cl' cp' r1' r2' e1' e2' hl' hp1' hp2' =>
    obtain ⟨b1, b2, hh1, hh2⟩ := hh
    obtain ⟨sa, sc, rfl⟩ : ∃ va vc, sl = .slice va cl.length vc := by
      obtain ⟨_, ⟨a, cap, h1, h2⟩ | ⟨b, o, cap, cur, fz, h1, _⟩⟩ := r1
      · exact ⟨a, cap, by rw [h1, h2]; rfl⟩
      · exact ⟨_, cap, h1⟩
    obtain ⟨pa, pc, rfl⟩ : ∃ va vc, sp = .slice va cp.length vc := by
      obtain ⟨_, ⟨a, cap, h1, h2⟩ | ⟨b, o, cap, cur, fz, h1, _⟩⟩ := r2
      · exact ⟨a, cap, by rw [h1, h2]; rfl⟩
      · exact ⟨_, cap, h1⟩
    obtain ⟨sa', sc', rfl⟩ : ∃ va vc, sl' = .slice va cl'.length vc := by
      obtain ⟨_, ⟨a, cap, h1, h2⟩ | ⟨b, o, cap, cur, fz, h1, _⟩⟩ := r1'
      · exact ⟨a, cap, by rw [h1, h2]; rfl⟩
      · exact ⟨_, cap, h1⟩
    obtain ⟨pa', pc', rfl⟩ : ∃ va vc, sp' = .slice va cp'.length vc := by
      obtain ⟨_, ⟨a, cap, h1, h2⟩ | ⟨b, o, cap, cur, fz, h1, _⟩⟩ := r2'
      · exact ⟨a, cap, by rw [h1, h2]; rfl⟩
      · exact ⟨_, cap, h1⟩
    obtain ⟨wb, hwb⟩ : ∃ wb, wb = (w.alloc (.cells #[.int .i64 k, .int .i64 ki, .string (st s), .slice sa cl.length sc, .slice pa cp.length pc] 28)).alloc (.cells #[.int .i64 k', .int .i64 ki', .string (st s'), .slice sa' cl'.length sc', .slice pa' cp'.length pc'] 28) := ⟨_, rfl⟩
    have hb0 : Below w.heap.size w wb := by rw [hwb]; exact blw_al ((Below.refl _ _).alloc (Nat.le_refl _) _) (by simp) _
    have hbx : wb.heap[w.heap.size]? = some (.cells #[.int .i64 k, .int .i64 ki, .string (st s), .slice sa cl.length sc, .slice pa cp.length pc] 28 (0, 0)) := by
      rw [hwb]
      show ((w.heap.push _).push _)[w.heap.size]? = _
      rw [Array.getElem?_push, if_neg (by simp), Array.getElem?_push, if_pos rfl]
    have hby : wb.heap[w.heap.size + 1]? = some (.cells #[.int .i64 k', .int .i64 ki', .string (st s'), .slice sa' cl'.length sc', .slice pa' cp'.length pc'] 28 (0, 0)) := by
      rw [hwb]
      show ((w.heap.push _).push _)[w.heap.size + 1]? = _
      rw [Array.getElem?_push, if_pos (by simp)]
    have hsb : wb.heap.size = w.heap.size + 2 := by rw [hwb]; simp
    have hE : exB (h + 1) (.mk k ki s l p) (.mk k' ki' s' l' p') = (decide (k = k') && (decide (ki = ki') && (decide (s = s') && (decide (l.length = l'.length) && (decide (p.length = p'.length) && (exL (exB h) l l' && exP (exB h) p p')))))) := rfl
    generalize exB (h + 1) (.mk k ki s l p) (.mk k' ki' s' l' p') = E at *
    rw [← e1, ← e1', ← e2, ← e2'] at hE
    have hb1 : cl.length ≤ 1000000 := by omega
    have hb2 : cp.length ≤ 1000000 := by omega
    replace hb0 := hide1 hb0
    replace hbx := hide1 hbx
    replace hby := hide1 hby
    replace hsb := hide1 hsb
    replace e1 := hide1 e1
    replace e2 := hide1 e2
    replace e1' := hide1 e1'
    replace e2' := hide1 e2'
    clear b1 b2
    have hout : ∀ b, E = b → (Ending.returned (.bool b) : Ending) = .returned (.bool E) := fun b h => by rw [h]
    have hs1 := st_eq s s'
    by_cases q1 : k = k'
    case neg =>
      have hq : (k == k') = false := by simpa using q1
      have hf : Hid ((Ending.returned (.bool false) : Ending) = .returned (.bool E) ∧ Below w.heap.size w wb) := hide1 ⟨hout _ (by rw [hE]; simp [q1]), hb0.out⟩
      clear hE hout hs1
      subst hwb
      go_enter Tryz.func16, Tryz.ntmps16
      go_wp2
      go_ret
      exact hf.out
    subst q1
    by_cases q2 : ki = ki'
    case neg =>
      have hq : (ki == ki') = false := by simpa using q2
      clear hs1
      have hf : Hid ((Ending.returned (.bool false) : Ending) = .returned (.bool E) ∧ Below w.heap.size w wb) := hide1 ⟨hout _ (by rw [hE]; simp [q2]), hb0.out⟩
      clear hE hout
      subst hwb
      go_enter Tryz.func16, Tryz.ntmps16
      go_wp2
      go_ret
      exact hf.out
    subst q2
    by_cases q3 : s = s'
    case neg =>
      have hq : ((st s).toList == (st s').toList) = false := by rw [hs1]; exact decide_eq_false q3
      clear hs1
      have hf : Hid ((Ending.returned (.bool false) : Ending) = .returned (.bool E) ∧ Below w.heap.size w wb) := hide1 ⟨hout _ (by rw [hE]; simp [q3]), hb0.out⟩
      clear hE hout
      subst hwb
      go_enter Tryz.func16, Tryz.ntmps16
      go_wp2
      go_ret
      exact hf.out
    subst q3
    by_cases q4 : cl.length = cl'.length
    case neg =>
      have hq : ((cl.length : Int) != (cl'.length : Int)) = true := by simp; omega
      clear hs1
      have hf : Hid ((Ending.returned (.bool false) : Ending) = .returned (.bool E) ∧ Below w.heap.size w wb) := hide1 ⟨hout _ (by rw [hE]; simp [q4]), hb0.out⟩
      clear hE hout
      subst hwb
      go_enter Tryz.func16, Tryz.ntmps16
      go_wp2
      go_ret
      exact hf.out
    by_cases q5 : cp.length = cp'.length
    case neg =>
      have hq : ((cp.length : Int) != (cp'.length : Int)) = true := by simp; omega
      have hq4 : ((cl.length : Int) != (cl'.length : Int)) = false := by simp; omega
      replace q4 := hide1 q4
      clear hs1
      have hf : Hid ((Ending.returned (.bool false) : Ending) = .returned (.bool E) ∧ Below w.heap.size w wb) := hide1 ⟨hout _ (by rw [hE]; simp [q4.out, q5]), hb0.out⟩
      clear hE hout
      subst hwb
      go_enter Tryz.func16, Tryz.ntmps16
      go_wp2
      go_ret
      exact hf.out
    have hq4 : ((cl.length : Int) != (cl'.length : Int)) = false := by simp; omega
    have hq5 : ((cp.length : Int) != (cp'.length : Int)) = false := by simp; omega
    have hE2 : Hid (E = (exL (exB h) l l' && exP (exB h) p p')) := hide1 (by rw [hE]; simp [q4, q5])
    replace q4 := hide1 q4
    replace q5 := hide1 q5
    clear hE hs1
    replace hout := hide1 hout
    go_enter Tryz.func16, Tryz.ntmps16
    go_wp2_with fail
    rw [← hwb]
    go_loopw [5] (fun x wr => ∃ i : Nat, x = .int .i64 (i : Nat) ∧ i ≤ cl.length ∧ Hid (exL (exB h) (l.drop i) (l'.drop i) = exL (exB h) l l') ∧ Hid (Below wb.heap.size wb wr)) (fun x _ => cl.length - (intOf x).toNat)
    case atStart => exact ⟨0, rfl, by omega, hide1 rfl, hide1 (Below.refl _ _)⟩
    case round =>
      obtain ⟨i, rfl, hin, hme, hbw⟩ := hrel
      have hbr := (hbw.out.block w.heap.size (by have := hsb.out; omega)).trans hbx.out
      have hbs := (hbw.out.block (w.heap.size + 1) (by have := hsb.out; omega)).trans hby.out
      have c3 : wr.cell? ⟨w.heap.size, 3, none⟩ = some (.slice sa cl.length sc) := by simp only [World.cell?, hbr]; rfl
      have d3 : wr.cell? ⟨w.heap.size + 1, 3, none⟩ = some (.slice sa' cl'.length sc') := by simp only [World.cell?, hbs]; rfl
      have hB : Hid (Below w.heap.size w wr) := hide1 (hb0.out.trans (hbw.out.mono hb0.out.size))
      by_cases hlt : i < cl.length
      · have hlt' : i < cl'.length := by have := q4.out; omega
        obtain ⟨x, hx⟩ : ∃ x, cl[i]? = some x := ⟨_, List.getElem?_eq_getElem hlt⟩
        obtain ⟨x', hx'⟩ : ∃ x, cl'[i]? = some x := ⟨_, List.getElem?_eq_getElem hlt'⟩
        obtain ⟨u, hu⟩ : ∃ u, l[i]? = some u := ⟨_, List.getElem?_eq_getElem (by have := e1.out; omega)⟩
        obtain ⟨u', hu'⟩ : ∃ u, l'[i]? = some u := ⟨_, List.getElem?_eq_getElem (by have := e1'.out; omega)⟩
        have hxu := hl i u x hu hx
        have hxu' := hl' i u' x' hu' hx'
        obtain ⟨b, o, cap, hve, -, hbl, hr⟩ := r1.at hx
        obtain ⟨b', o', cap', hve', -, hbl', hr'⟩ := r1'.at hx'
        have hva : sa = some ⟨b, o, none⟩ := by cases hve; rfl
        have hva' : sa' = some ⟨b', o', none⟩ := by cases hve'; rfl
        subst hva hva'
        have hx5 := r1.1 x (List.mem_of_getElem? hx)
        have hx5' := r1'.1 x' (List.mem_of_getElem? hx')
        obtain ⟨x0, x1, x2, x3, x4, rfl⟩ : ∃ x0 x1 x2 x3 x4, x = [x0, x1, x2, x3, x4] := by
          match x, hx5 with
          | [x0, x1, x2, x3, x4], _ => exact ⟨x0, x1, x2, x3, x4, rfl⟩
        obtain ⟨z0, z1, z2, z3, z4, rfl⟩ : ∃ x0 x1 x2 x3 x4, x' = [x0, x1, x2, x3, x4] := by
          match x', hx5' with
          | [x0, x1, x2, x3, x4], _ => exact ⟨x0, x1, x2, x3, x4, rfl⟩
        have hms := exL_drop (f := exB h) hu hu'
        rw [hme.out] at hms
        replace hms := hide1 hms
        have hhu := hh1 u (List.mem_of_getElem? hu)
        replace hxu := hide1 hxu
        replace hxu' := hide1 hxu'
        replace hr := hide1 hr
        replace hr' := hide1 hr'
        replace hbr := hide1 hbr
        replace hbs := hide1 hbs
        clear hme hve hve' hx hx' hx5 hx5' hu hu'
        go_upto_region 6 with fail
        refine wp_flowG 11 _ _ (by kernel_rfl) (by kernel_rfl) (by kernel_rfl) rfl (R6 w.heap.size (w.heap.size + 1) i (.slice (some ⟨b, o, none⟩) cl.length sc) (.slice (some ⟨b', o', none⟩) cl'.length sc') (.pointer (some ⟨b, o + i * 5, none⟩)) (.pointer (some ⟨b', o' + i * 5, none⟩)) #[x0, x1, x2, x3, x4] #[z0, z1, z2, z3, z4] (exB h u u')) R6_mono ?_ ?_
        · intro j op hop hj a wa hwa hsz hsl hdep K hK
          have hBa : Below w.heap.size w wa := hB.out.trans (hwa.mono hB.out.size)
          have hwz := hB.out.size
          match j, hop with
          | 0, hop =>
            obtain rfl := Option.some.inj hop
            have t2 : a.tmps.getD 2 undef = .pointer (some ⟨w.heap.size, 0, none⟩) := hsl 2 rfl
            exact .plain rfl (wp_val (w' := wa) (by simp only [execOp, Act.eval]; rw [show a.tmps.getD 2 undef = _ from t2]; kernel_rfl) (hK _ _ (Below.refl _ _) rfl))
          | 1, hop =>
            obtain rfl := Option.some.inj hop
            have t := hdep 0 _ 51 rfl rfl ⟨⟨0, .data⟩, by simp, rfl, rfl⟩
            have hc := (hwa.cell (p := ⟨w.heap.size, 3, none⟩) (show w.heap.size < wr.heap.size from (Array.getElem?_eq_some_iff.1 hbr.out).1)).trans c3
            exact .plain rfl (wp_val (w' := wa) (by simp only [execOp, Act.eval]; rw [show a.tmps.getD 51 undef = _ from t]; simp only [Sem.run_bind, ld_sV hc, Result.andThen_ok, Sem.run_pure]) (hK _ _ (Below.refl _ _) rfl))
          | 2, hop =>
            obtain rfl := Option.some.inj hop
            have t := hsl 5 rfl
            exact .plain rfl (wp_val (w' := wa) (by simp only [execOp, Act.eval]; rw [show a.tmps.getD 5 undef = _ from t]; rfl) (hK _ _ (Below.refl _ _) rfl))
          | 3, hop =>
            obtain rfl := Option.some.inj hop
            have t1 := hdep 1 _ 52 rfl rfl ⟨⟨1, .data⟩, by simp, rfl, rfl⟩
            have t2 := hdep 2 _ 53 rfl rfl ⟨⟨2, .data⟩, by simp, rfl, rfl⟩
            exact .plain rfl (wp_val (w' := wa) (by simp only [execOp, Act.eval]; rw [show a.tmps.getD 52 undef = _ from t1, show a.tmps.getD 53 undef = _ from t2]; simp only [Sem.run_bind, ix_oV hlt, Result.andThen_ok, Sem.run_pure]) (hK _ _ (Below.refl _ _) rfl))
          | 4, hop =>
            obtain rfl := Option.some.inj hop
            have t1 := hdep 3 _ 54 rfl rfl ⟨⟨3, .data⟩, by simp, rfl, rfl⟩
            have hrr : wa.rangeAt b (o + i * 5) [x0, x1, x2, x3, x4] := fun q v hq => by
              rw [World.cell?_of_block (w := w) (hBa.block b hbl)]
              exact hr.out q v hq
            exact .plain rfl (wp_val (w' := wa) (by simp only [execOp, Act.eval]; rw [show a.tmps.getD 54 undef = _ from t1]; simp only [Sem.run_bind, ld_mV hrr, Result.andThen_ok, Sem.run_pure]) (hK _ _ (Below.refl _ _) rfl))
          | 5, hop =>
            obtain rfl := Option.some.inj hop
            have t2 : a.tmps.getD 3 undef = .pointer (some ⟨w.heap.size + 1, 0, none⟩) := hsl 3 rfl
            exact .plain rfl (wp_val (w' := wa) (by simp only [execOp, Act.eval]; rw [show a.tmps.getD 3 undef = _ from t2]; kernel_rfl) (hK _ _ (Below.refl _ _) rfl))
          | 6, hop =>
            obtain rfl := Option.some.inj hop
            have t := hdep 5 _ 56 rfl rfl ⟨⟨5, .data⟩, by simp, rfl, rfl⟩
            have hc := (hwa.cell (p := ⟨w.heap.size + 1, 3, none⟩) (show w.heap.size + 1 < wr.heap.size from (Array.getElem?_eq_some_iff.1 hbs.out).1)).trans d3
            exact .plain rfl (wp_val (w' := wa) (by simp only [execOp, Act.eval]; rw [show a.tmps.getD 56 undef = _ from t]; simp only [Sem.run_bind, ld_sV hc, Result.andThen_ok, Sem.run_pure]) (hK _ _ (Below.refl _ _) rfl))
          | 7, hop =>
            obtain rfl := Option.some.inj hop
            have t := hsl 5 rfl
            exact .plain rfl (wp_val (w' := wa) (by simp only [execOp, Act.eval]; rw [show a.tmps.getD 5 undef = _ from t]; rfl) (hK _ _ (Below.refl _ _) rfl))
          | 8, hop =>
            obtain rfl := Option.some.inj hop
            have t1 := hdep 6 _ 57 rfl rfl ⟨⟨6, .data⟩, by simp, rfl, rfl⟩
            have t2 := hdep 7 _ 58 rfl rfl ⟨⟨7, .data⟩, by simp, rfl, rfl⟩
            exact .plain rfl (wp_val (w' := wa) (by simp only [execOp, Act.eval]; rw [show a.tmps.getD 57 undef = _ from t1, show a.tmps.getD 58 undef = _ from t2]; simp only [Sem.run_bind, ix_oV hlt', Result.andThen_ok, Sem.run_pure]) (hK _ _ (Below.refl _ _) rfl))
          | 9, hop =>
            obtain rfl := Option.some.inj hop
            have t1 := hdep 8 _ 59 rfl rfl ⟨⟨8, .data⟩, by simp, rfl, rfl⟩
            have hrr : wa.rangeAt b' (o' + i * 5) [z0, z1, z2, z3, z4] := fun q v hq => by
              rw [World.cell?_of_block (w := w) (hBa.block b' hbl')]
              exact hr'.out q v hq
            exact .plain rfl (wp_val (w' := wa) (by simp only [execOp, Act.eval]; rw [show a.tmps.getD 59 undef = _ from t1]; simp only [Sem.run_bind, ld_mV hrr, Result.andThen_ok, Sem.run_pure]) (hK _ _ (Below.refl _ _) rfl))
          | 10, hop =>
            obtain rfl := Option.some.inj hop
            have t4 := hdep 4 _ 55 rfl rfl ⟨⟨4, .data⟩, by simp, rfl, rfl⟩
            have t9 := hdep 9 _ 60 rfl rfl ⟨⟨9, .data⟩, by simp, rfl, rfl⟩
            have hcal := ih hhu (hxu.out.frame (w' := wa) (G := F) (fun j _ hj => hBa.block j hj) (fun _ h _ => h)) (hxu'.out.frame (w' := wa) (G := G) (fun j _ hj => hBa.block j hj) (fun _ h _ => h))
            refine .plain rfl (oper_any (J := fun r w' => r = .bool (exB h u u') ∧ Below wa.heap.size wa w') 16 #[.tmp 55, .tmp 60] _ rfl #[.agg #[x0, x1, x2, x3, x4], .agg #[z0, z1, z2, z3, z4]] (by simp only [List.map_toArray, List.map_cons, List.map_nil, Act.eval]; rw [show a.tmps.getD 55 undef = _ from t4, show a.tmps.getD 60 undef = _ from t9]) (fun w => by kernel_rfl) (hcal.mono fun e w' h => ⟨_, h.1, rfl, h.2⟩) ?_)
            rintro r w' ⟨rfl, hb⟩
            exact hK _ _ hb rfl
          | 11, _ => exact absurd rfl hj
          | _ + 12, hop => exact absurd hop (by simp)
        · intro a wa hwa hdf hsz hsl hrr K hK
          have t10 := hrr 10 _ 61 rfl (by decide) rfl
          have hbw2 := hide1 (hbw.out.trans (hwa.mono hbw.out.size))
          refine .plain rfl (wp_val (w' := wa) (v := .bool (!exB h u u')) (by simp only [execOp, Act.eval]; rw [show a.tmps.getD 61 undef = _ from t10]; kernel_rfl) ?_)
          refine hK _ wa ?_
          have hact := act_puts hdf hsz hsl
          have hBf := hide1 (hB.out.trans (hwa.mono hB.out.size))
          clear hrr hsl hdf hsz hK t10 ih
          simp only [List.filterMap_cons, List.filterMap_nil, List.foldl_cons, List.foldl_nil] at hact
          rw [hact]
          generalize a.tmps.getD 51 undef = y51
          generalize a.tmps.getD 52 undef = y52
          generalize a.tmps.getD 53 undef = y53
          generalize a.tmps.getD 54 undef = y54
          generalize a.tmps.getD 55 undef = y55
          generalize a.tmps.getD 56 undef = y56
          generalize a.tmps.getD 57 undef = y57
          generalize a.tmps.getD 58 undef = y58
          generalize a.tmps.getD 59 undef = y59
          generalize a.tmps.getD 60 undef = y60
          generalize a.tmps.getD 61 undef = y61
          generalize a.tmps.getD 62 undef = y62
          clear hact a
          cases hex : exB h u u' with
          | true =>
            rw [hex, Bool.true_and] at hms
            refine (‹∀ (a : Act) (w : World), Code.wp Tryz.prog _ _ a w → _›) _ wa ?_
            simp only [Bool.not_true, Act.put, List.setIfInBounds_toArray, List.set_cons_succ, List.set_cons_zero]
            go_wp2
            go_roundw
            case rel => exact ⟨i + 1, rfl, by omega, hide1 hms.out.symm, hbw2⟩
            case measure => simp [intOf]; omega
          | false =>
            rw [hex, Bool.false_and] at hms
            refine (‹∀ (a : Act) (w : World), Code.wp Tryz.prog _ _ a w → _›) _ wa ?_
            have hf : Hid ((Ending.returned (.bool false) : Ending) = .returned (.bool E) ∧ Below w.heap.size w wa) := hide1 ⟨hout.out _ (by rw [hE2.out, hms.out]; rfl), hBf.out⟩
            simp only [Bool.not_false, Act.put, List.setIfInBounds_toArray, List.set_cons_succ, List.set_cons_zero]
            go_wp2
            go_ret
            exact hf.out
      · have hie : i = cl.length := by omega
        subst hie
        have hE3 : Hid (E = exP (exB h) p p') := hide1 (by
          have h3 : exL (exB h) l l' = true := by
            rw [← hme.out, List.drop_of_length_le (by have := e1.out; omega)]
            cases l'.drop cl.length <;> rfl
          rw [hE2.out, h3, Bool.true_and])
        clear hme hlt r1 r1' hh1
        go_wp2_with fail
        go_loopw [6] (fun x wr => ∃ i : Nat, x = .int .i64 (i : Nat) ∧ i ≤ cp.length ∧ Hid (exP (exB h) (p.drop i) (p'.drop i) = exP (exB h) p p') ∧ Hid (Below wb.heap.size wb wr)) (fun x _ => cp.length - (intOf x).toNat)
        case atStart => exact ⟨0, rfl, by omega, hide1 rfl, hbw⟩
        case round =>
          clear hbw hB c3 d3 hbr hbs hin
          obtain ⟨i, rfl, hin, hme, hbw⟩ := hrel
          have hbr := (hbw.out.block w.heap.size (by have := hsb.out; omega)).trans hbx.out
          have hbs := (hbw.out.block (w.heap.size + 1) (by have := hsb.out; omega)).trans hby.out
          have c4 : wr.cell? ⟨w.heap.size, 4, none⟩ = some (.slice pa cp.length pc) := by simp only [World.cell?, hbr]; rfl
          have d4 : wr.cell? ⟨w.heap.size + 1, 4, none⟩ = some (.slice pa' cp'.length pc') := by simp only [World.cell?, hbs]; rfl
          have hB : Hid (Below w.heap.size w wr) := hide1 (hb0.out.trans (hbw.out.mono hb0.out.size))
          by_cases hlt : i < cp.length
          · have hlt' : i < cp'.length := by have := q5.out; omega
            obtain ⟨x, hx⟩ : ∃ x, cp[i]? = some x := ⟨_, List.getElem?_eq_getElem hlt⟩
            obtain ⟨x', hx'⟩ : ∃ x, cp'[i]? = some x := ⟨_, List.getElem?_eq_getElem hlt'⟩
            obtain ⟨u, hu⟩ : ∃ u, p[i]? = some u := ⟨_, List.getElem?_eq_getElem (by have := e2.out; omega)⟩
            obtain ⟨u', hu'⟩ : ∃ u, p'[i]? = some u := ⟨_, List.getElem?_eq_getElem (by have := e2'.out; omega)⟩
            have hxn := hp1 i u x hu hx
            have hxn' := hp1' i u' x' hu' hx'
            have hxu := hp2 i u x hu hx
            have hxu' := hp2' i u' x' hu' hx'
            obtain ⟨b, o, cap, hve, -, hbl, hr⟩ := r2.at hx
            obtain ⟨b', o', cap', hve', -, hbl', hr'⟩ := r2'.at hx'
            have hva : pa = some ⟨b, o, none⟩ := by cases hve; rfl
            have hva' : pa' = some ⟨b', o', none⟩ := by cases hve'; rfl
            subst hva hva'
            obtain ⟨x0, x1, x2, x3, x4, x5, rfl⟩ := arr6 (r2.1 x (List.mem_of_getElem? hx))
            obtain ⟨z0, z1, z2, z3, z4, z5, rfl⟩ := arr6 (r2'.1 x' (List.mem_of_getElem? hx'))
            have hms := exP_drop (f := exB h) hu hu'
            rw [hme.out] at hms
            replace hms := hide1 hms
            have hhu := hh2 u (List.mem_of_getElem? hu)
            replace hxu := hide1 hxu
            replace hxu' := hide1 hxu'
            replace hr := hide1 hr
            replace hr' := hide1 hr'
            replace hbr := hide1 hbr
            replace hbs := hide1 hbs
            simp only [List.head?_cons, Option.some.injEq] at hxn hxn'
            subst hxn hxn'
            clear hme hve hve' hx hx' hu hu'
            go_upto_region 11 with fail
            by_cases hnm : u.1 = u'.1
            case neg =>
              refine wp_flowG 28 _ _ (by kernel_rfl) (by kernel_rfl) (by kernel_rfl) rfl (fun j v _ => v = ([(.pointer (some ⟨w.heap.size, 4, none⟩)), (.slice (some ⟨b, o, none⟩) cp.length pc), (.int .i64 (i : Nat)), (.pointer (some ⟨b, o + i * 6, none⟩)), (.pointer (some ⟨b, o + i * 6, none⟩)), (.string (st u.1)), (.pointer (some ⟨w.heap.size + 1, 4, none⟩)), (.slice (some ⟨b', o', none⟩) cp'.length pc'), (.int .i64 (i : Nat)), (.pointer (some ⟨b', o' + i * 6, none⟩)), (.pointer (some ⟨b', o' + i * 6, none⟩)), (.string (st u'.1)), (.bool true), (.bool true), undef, undef, undef, undef, undef, undef, undef, undef, undef, undef, undef, undef, undef, undef] : List Value).getD j undef) (fun _ _ _ _ h _ => h) ?_ ?_
              · intro j op hop hj a wa hwa hsz hsl hdep K hK
                have hBa : Below w.heap.size w wa := hB.out.trans (hwa.mono hB.out.size)
                have hz83 : 83 < a.tmps.size := by rw [hsz]; simp
                match j, hop with
                  | 0, hop =>
                    obtain rfl := Option.some.inj hop
                    have tq : a.tmps.getD 2 undef = .pointer (some ⟨w.heap.size, 0, none⟩) := hsl 2 rfl
                    exact .plain rfl (wp_val (w' := wa) (v := (.pointer (some ⟨w.heap.size, 4, none⟩))) (by simp only [execOp, Act.eval]; rw [show a.tmps.getD 2 undef = _ from tq]; kernel_rfl) (hK _ _ (Below.refl _ _) rfl))
                  | 1, hop =>
                    obtain rfl := Option.some.inj hop
                    have t0 : a.tmps.getD 70 undef = (.pointer (some ⟨w.heap.size, 4, none⟩)) := hdep 0 _ 70 rfl rfl ⟨⟨0, .data⟩, by simp, rfl, rfl⟩
                    have hc := (hwa.cell (p := ⟨w.heap.size, 4, none⟩) (show w.heap.size < wr.heap.size from (Array.getElem?_eq_some_iff.1 hbr.out).1)).trans c4
                    exact .plain rfl (wp_val (w' := wa) (v := (.slice (some ⟨b, o, none⟩) cp.length pc)) (by simp only [execOp, Act.eval]; rw [show a.tmps.getD 70 undef = _ from t0]; simp only [Sem.run_bind, ld_sP hc, Result.andThen_ok, Sem.run_pure]) (hK _ _ (Below.refl _ _) rfl))
                  | 2, hop =>
                    obtain rfl := Option.some.inj hop
                    have tq : a.tmps.getD 6 undef = (.int .i64 (i : Nat)) := hsl 6 rfl
                    exact .plain rfl (wp_val (w' := wa) (v := (.int .i64 (i : Nat))) (by simp only [execOp, Act.eval]; rw [show a.tmps.getD 6 undef = _ from tq]; rfl) (hK _ _ (Below.refl _ _) rfl))
                  | 3, hop =>
                    obtain rfl := Option.some.inj hop
                    have t1 : a.tmps.getD 71 undef = (.slice (some ⟨b, o, none⟩) cp.length pc) := hdep 1 _ 71 rfl rfl ⟨⟨1, .data⟩, by simp, rfl, rfl⟩
                    have t2 : a.tmps.getD 72 undef = (.int .i64 (i : Nat)) := hdep 2 _ 72 rfl rfl ⟨⟨2, .data⟩, by simp, rfl, rfl⟩
                    exact .plain rfl (wp_val (w' := wa) (v := (.pointer (some ⟨b, o + i * 6, none⟩))) (by simp only [execOp, Act.eval]; rw [show a.tmps.getD 71 undef = _ from t1, show a.tmps.getD 72 undef = _ from t2]; simp only [Sem.run_bind, ix_oP hlt, Result.andThen_ok, Sem.run_pure]) (hK _ _ (Below.refl _ _) rfl))
                  | 4, hop =>
                    obtain rfl := Option.some.inj hop
                    have t3 : a.tmps.getD 73 undef = (.pointer (some ⟨b, o + i * 6, none⟩)) := hdep 3 _ 73 rfl rfl ⟨⟨3, .data⟩, by simp, rfl, rfl⟩
                    exact .plain rfl (wp_val (w' := wa) (v := (.pointer (some ⟨b, o + i * 6, none⟩))) (by simp only [execOp, Act.eval]; rw [show a.tmps.getD 73 undef = _ from t3]; kernel_rfl) (hK _ _ (Below.refl _ _) rfl))
                  | 5, hop =>
                    obtain rfl := Option.some.inj hop
                    have t4 : a.tmps.getD 74 undef = (.pointer (some ⟨b, o + i * 6, none⟩)) := hdep 4 _ 74 rfl rfl ⟨⟨4, .data⟩, by simp, rfl, rfl⟩
                    have hc : wa.cell? ⟨b, o + i * 6, none⟩ = some (.string (st u.1)) := by
                      rw [World.cell?_of_block (w := w) (hBa.block b hbl)]
                      exact hr.out 0 _ rfl
                    exact .plain rfl (wp_val (w' := wa) (v := (.string (st u.1))) (by simp only [execOp, Act.eval]; rw [show a.tmps.getD 74 undef = _ from t4]; simp only [Sem.run_bind, ld_s0 hc, Result.andThen_ok, Sem.run_pure]) (hK _ _ (Below.refl _ _) rfl))
                  | 6, hop =>
                    obtain rfl := Option.some.inj hop
                    have tq : a.tmps.getD 3 undef = .pointer (some ⟨w.heap.size + 1, 0, none⟩) := hsl 3 rfl
                    exact .plain rfl (wp_val (w' := wa) (v := (.pointer (some ⟨w.heap.size + 1, 4, none⟩))) (by simp only [execOp, Act.eval]; rw [show a.tmps.getD 3 undef = _ from tq]; kernel_rfl) (hK _ _ (Below.refl _ _) rfl))
                  | 7, hop =>
                    obtain rfl := Option.some.inj hop
                    have t6 : a.tmps.getD 76 undef = (.pointer (some ⟨w.heap.size + 1, 4, none⟩)) := hdep 6 _ 76 rfl rfl ⟨⟨6, .data⟩, by simp, rfl, rfl⟩
                    have hc := (hwa.cell (p := ⟨w.heap.size + 1, 4, none⟩) (show w.heap.size + 1 < wr.heap.size from (Array.getElem?_eq_some_iff.1 hbs.out).1)).trans d4
                    exact .plain rfl (wp_val (w' := wa) (v := (.slice (some ⟨b', o', none⟩) cp'.length pc')) (by simp only [execOp, Act.eval]; rw [show a.tmps.getD 76 undef = _ from t6]; simp only [Sem.run_bind, ld_sP hc, Result.andThen_ok, Sem.run_pure]) (hK _ _ (Below.refl _ _) rfl))
                  | 8, hop =>
                    obtain rfl := Option.some.inj hop
                    have tq : a.tmps.getD 6 undef = (.int .i64 (i : Nat)) := hsl 6 rfl
                    exact .plain rfl (wp_val (w' := wa) (v := (.int .i64 (i : Nat))) (by simp only [execOp, Act.eval]; rw [show a.tmps.getD 6 undef = _ from tq]; rfl) (hK _ _ (Below.refl _ _) rfl))
                  | 9, hop =>
                    obtain rfl := Option.some.inj hop
                    have t7 : a.tmps.getD 77 undef = (.slice (some ⟨b', o', none⟩) cp'.length pc') := hdep 7 _ 77 rfl rfl ⟨⟨7, .data⟩, by simp, rfl, rfl⟩
                    have t8 : a.tmps.getD 78 undef = (.int .i64 (i : Nat)) := hdep 8 _ 78 rfl rfl ⟨⟨8, .data⟩, by simp, rfl, rfl⟩
                    exact .plain rfl (wp_val (w' := wa) (v := (.pointer (some ⟨b', o' + i * 6, none⟩))) (by simp only [execOp, Act.eval]; rw [show a.tmps.getD 77 undef = _ from t7, show a.tmps.getD 78 undef = _ from t8]; simp only [Sem.run_bind, ix_oP hlt', Result.andThen_ok, Sem.run_pure]) (hK _ _ (Below.refl _ _) rfl))
                  | 10, hop =>
                    obtain rfl := Option.some.inj hop
                    have t9 : a.tmps.getD 79 undef = (.pointer (some ⟨b', o' + i * 6, none⟩)) := hdep 9 _ 79 rfl rfl ⟨⟨9, .data⟩, by simp, rfl, rfl⟩
                    exact .plain rfl (wp_val (w' := wa) (v := (.pointer (some ⟨b', o' + i * 6, none⟩))) (by simp only [execOp, Act.eval]; rw [show a.tmps.getD 79 undef = _ from t9]; kernel_rfl) (hK _ _ (Below.refl _ _) rfl))
                  | 11, hop =>
                    obtain rfl := Option.some.inj hop
                    have t10 : a.tmps.getD 80 undef = (.pointer (some ⟨b', o' + i * 6, none⟩)) := hdep 10 _ 80 rfl rfl ⟨⟨10, .data⟩, by simp, rfl, rfl⟩
                    have hc : wa.cell? ⟨b', o' + i * 6, none⟩ = some (.string (st u'.1)) := by
                      rw [World.cell?_of_block (w := w) (hBa.block b' hbl')]
                      exact hr'.out 0 _ rfl
                    exact .plain rfl (wp_val (w' := wa) (v := (.string (st u'.1))) (by simp only [execOp, Act.eval]; rw [show a.tmps.getD 80 undef = _ from t10]; simp only [Sem.run_bind, ld_s0 hc, Result.andThen_ok, Sem.run_pure]) (hK _ _ (Below.refl _ _) rfl))
                  | 12, hop =>
                    obtain rfl := Option.some.inj hop
                    have t5 : a.tmps.getD 75 undef = (.string (st u.1)) := hdep 5 _ 75 rfl rfl ⟨⟨5, .data⟩, by simp, rfl, rfl⟩
                    have t11 : a.tmps.getD 81 undef = (.string (st u'.1)) := hdep 11 _ 81 rfl rfl ⟨⟨11, .data⟩, by simp, rfl, rfl⟩
                    exact .plain rfl (wp_val (w' := wa) (v := (.bool true)) (by simp only [execOp, Act.eval]; rw [show a.tmps.getD 75 undef = _ from t5, show a.tmps.getD 81 undef = _ from t11]; simp only [Sem.run_bind, eg_s, nq_s, decide_eq_false hnm, Bool.not_false, Result.andThen_ok, Sem.run_pure]) (hK _ _ (Below.refl _ _) rfl))
                  | 13, hop =>
                    obtain rfl := Option.some.inj hop
                    have t12 : a.tmps.getD 82 undef = (.bool true) := hdep 12 _ 82 rfl rfl ⟨⟨12, .data⟩, by simp, rfl, rfl⟩
                    exact .plain rfl (wp_val (w' := wa) (v := (.bool true)) (by simp only [execOp, Act.eval]; rw [show a.tmps.getD 82 undef = _ from t12]; rfl) (hK _ _ (Below.refl _ _) rfl))
                  | 14, hop =>
                    obtain rfl := Option.some.inj hop
                    have g13 : a.tmps.getD 83 undef = .bool true := hdep 13 _ 83 rfl rfl ⟨⟨13, .guard⟩, by simp, rfl, rfl⟩
                    exact .skip rfl rfl hz83 g13 (hK _ _ (Below.refl _ _) rfl)
                  | 15, hop =>
                    obtain rfl := Option.some.inj hop
                    have g13 : a.tmps.getD 83 undef = .bool true := hdep 13 _ 83 rfl rfl ⟨⟨13, .guard⟩, by simp, rfl, rfl⟩
                    exact .skip rfl rfl hz83 g13 (hK _ _ (Below.refl _ _) rfl)
                  | 16, hop =>
                    obtain rfl := Option.some.inj hop
                    have g13 : a.tmps.getD 83 undef = .bool true := hdep 13 _ 83 rfl rfl ⟨⟨13, .guard⟩, by simp, rfl, rfl⟩
                    exact .skip rfl rfl hz83 g13 (hK _ _ (Below.refl _ _) rfl)
                  | 17, hop =>
                    obtain rfl := Option.some.inj hop
                    have g13 : a.tmps.getD 83 undef = .bool true := hdep 13 _ 83 rfl rfl ⟨⟨13, .guard⟩, by simp, rfl, rfl⟩
                    exact .skip rfl rfl hz83 g13 (hK _ _ (Below.refl _ _) rfl)
                  | 18, hop =>
                    obtain rfl := Option.some.inj hop
                    have g13 : a.tmps.getD 83 undef = .bool true := hdep 13 _ 83 rfl rfl ⟨⟨13, .guard⟩, by simp, rfl, rfl⟩
                    exact .skip rfl rfl hz83 g13 (hK _ _ (Below.refl _ _) rfl)
                  | 19, hop =>
                    obtain rfl := Option.some.inj hop
                    have g13 : a.tmps.getD 83 undef = .bool true := hdep 13 _ 83 rfl rfl ⟨⟨13, .guard⟩, by simp, rfl, rfl⟩
                    exact .skip rfl rfl hz83 g13 (hK _ _ (Below.refl _ _) rfl)
                  | 20, hop =>
                    obtain rfl := Option.some.inj hop
                    have g13 : a.tmps.getD 83 undef = .bool true := hdep 13 _ 83 rfl rfl ⟨⟨13, .guard⟩, by simp, rfl, rfl⟩
                    exact .skip rfl rfl hz83 g13 (hK _ _ (Below.refl _ _) rfl)
                  | 21, hop =>
                    obtain rfl := Option.some.inj hop
                    have g13 : a.tmps.getD 83 undef = .bool true := hdep 13 _ 83 rfl rfl ⟨⟨13, .guard⟩, by simp, rfl, rfl⟩
                    exact .skip rfl rfl hz83 g13 (hK _ _ (Below.refl _ _) rfl)
                  | 22, hop =>
                    obtain rfl := Option.some.inj hop
                    have g13 : a.tmps.getD 83 undef = .bool true := hdep 13 _ 83 rfl rfl ⟨⟨13, .guard⟩, by simp, rfl, rfl⟩
                    exact .skip rfl rfl hz83 g13 (hK _ _ (Below.refl _ _) rfl)
                  | 23, hop =>
                    obtain rfl := Option.some.inj hop
                    have g13 : a.tmps.getD 83 undef = .bool true := hdep 13 _ 83 rfl rfl ⟨⟨13, .guard⟩, by simp, rfl, rfl⟩
                    exact .skip rfl rfl hz83 g13 (hK _ _ (Below.refl _ _) rfl)
                  | 24, hop =>
                    obtain rfl := Option.some.inj hop
                    have g13 : a.tmps.getD 83 undef = .bool true := hdep 13 _ 83 rfl rfl ⟨⟨13, .guard⟩, by simp, rfl, rfl⟩
                    exact .skip rfl rfl hz83 g13 (hK _ _ (Below.refl _ _) rfl)
                  | 25, hop =>
                    obtain rfl := Option.some.inj hop
                    have g13 : a.tmps.getD 83 undef = .bool true := hdep 13 _ 83 rfl rfl ⟨⟨13, .guard⟩, by simp, rfl, rfl⟩
                    exact .skip rfl rfl hz83 g13 (hK _ _ (Below.refl _ _) rfl)
                  | 26, hop =>
                    obtain rfl := Option.some.inj hop
                    have g13 : a.tmps.getD 83 undef = .bool true := hdep 13 _ 83 rfl rfl ⟨⟨13, .guard⟩, by simp, rfl, rfl⟩
                    exact .skip rfl rfl hz83 g13 (hK _ _ (Below.refl _ _) rfl)
                  | 27, hop =>
                    obtain rfl := Option.some.inj hop
                    have g13 : a.tmps.getD 83 undef = .bool true := hdep 13 _ 83 rfl rfl ⟨⟨13, .guard⟩, by simp, rfl, rfl⟩
                    exact .skip rfl rfl hz83 g13 (hK _ _ (Below.refl _ _) rfl)
                  | 28, _ => exact absurd rfl hj
                  | _ + 29, hop => exact absurd hop (by simp)
              · intro a wa hwa hdf hsz hsl hrr K hK
                have g13 : a.tmps.getD 83 undef = (.bool true) := hrr 13 _ 83 rfl (by decide) rfl
                have g27 : a.tmps.getD 97 undef = undef := hrr 27 _ 97 rfl (by decide) rfl
                have hbw2 := hide1 (hbw.out.trans (hwa.mono hbw.out.size))
                refine .plain rfl (wp_val (w' := wa) (v := (.bool true)) (by simp only [execOp, Act.eval]; rw [show a.tmps.getD 83 undef = _ from g13, show a.tmps.getD 97 undef = _ from g27]; rfl) ?_)
                refine hK _ wa ?_
                have hact := act_puts hdf hsz hsl
                have hBf := hide1 (hB.out.trans (hwa.mono hB.out.size))
                clear hrr hsl hdf hsz hK g13 g27 ih
                simp only [List.filterMap_cons, List.filterMap_nil, List.foldl_cons, List.foldl_nil] at hact
                rw [hact]
                generalize a.tmps.getD 70 undef = y70
                generalize a.tmps.getD 71 undef = y71
                generalize a.tmps.getD 72 undef = y72
                generalize a.tmps.getD 73 undef = y73
                generalize a.tmps.getD 74 undef = y74
                generalize a.tmps.getD 75 undef = y75
                generalize a.tmps.getD 76 undef = y76
                generalize a.tmps.getD 77 undef = y77
                generalize a.tmps.getD 78 undef = y78
                generalize a.tmps.getD 79 undef = y79
                generalize a.tmps.getD 80 undef = y80
                generalize a.tmps.getD 81 undef = y81
                generalize a.tmps.getD 82 undef = y82
                generalize a.tmps.getD 83 undef = y83
                generalize a.tmps.getD 84 undef = y84
                generalize a.tmps.getD 85 undef = y85
                generalize a.tmps.getD 86 undef = y86
                generalize a.tmps.getD 87 undef = y87
                generalize a.tmps.getD 88 undef = y88
                generalize a.tmps.getD 89 undef = y89
                generalize a.tmps.getD 90 undef = y90
                generalize a.tmps.getD 91 undef = y91
                generalize a.tmps.getD 92 undef = y92
                generalize a.tmps.getD 93 undef = y93
                generalize a.tmps.getD 94 undef = y94
                generalize a.tmps.getD 95 undef = y95
                generalize a.tmps.getD 96 undef = y96
                generalize a.tmps.getD 97 undef = y97
                generalize a.tmps.getD 98 undef = y98
                clear hact a
                rw [decide_eq_false hnm, Bool.false_and] at hms
                refine (‹∀ (a : Act) (w : World), Code.wp Tryz.prog _ _ a w → _›) _ wa ?_
                have hf : Hid ((Ending.returned (.bool false) : Ending) = .returned (.bool E) ∧ Below w.heap.size w wa) := hide1 ⟨hout.out _ (by rw [hE3.out, hms.out]), hBf.out⟩
                simp only [Act.put, List.setIfInBounds_toArray, List.set_cons_succ, List.set_cons_zero]
                go_wp2
                go_ret
                exact hf.out
            refine wp_flowG 28 _ _ (by kernel_rfl) (by kernel_rfl) (by kernel_rfl) rfl (fun j v _ => v = ([(.pointer (some ⟨w.heap.size, 4, none⟩)), (.slice (some ⟨b, o, none⟩) cp.length pc), (.int .i64 (i : Nat)), (.pointer (some ⟨b, o + i * 6, none⟩)), (.pointer (some ⟨b, o + i * 6, none⟩)), (.string (st u.1)), (.pointer (some ⟨w.heap.size + 1, 4, none⟩)), (.slice (some ⟨b', o', none⟩) cp'.length pc'), (.int .i64 (i : Nat)), (.pointer (some ⟨b', o' + i * 6, none⟩)), (.pointer (some ⟨b', o' + i * 6, none⟩)), (.string (st u'.1)), (.bool false), (.bool false), (.pointer (some ⟨w.heap.size, 4, none⟩)), (.slice (some ⟨b, o, none⟩) cp.length pc), (.int .i64 (i : Nat)), (.pointer (some ⟨b, o + i * 6, none⟩)), (.pointer (some ⟨b, o + i * 6 + 1, none⟩)), (.agg #[x1, x2, x3, x4, x5]), (.pointer (some ⟨w.heap.size + 1, 4, none⟩)), (.slice (some ⟨b', o', none⟩) cp'.length pc'), (.int .i64 (i : Nat)), (.pointer (some ⟨b', o' + i * 6, none⟩)), (.pointer (some ⟨b', o' + i * 6 + 1, none⟩)), (.agg #[z1, z2, z3, z4, z5]), (.bool (exB h u.2 u'.2)), (.bool (!exB h u.2 u'.2))] : List Value).getD j undef) (fun _ _ _ _ h _ => h) ?_ ?_
            · intro j op hop hj a wa hwa hsz hsl hdep K hK
              have hBa : Below w.heap.size w wa := hB.out.trans (hwa.mono hB.out.size)
              have hz83 : 83 < a.tmps.size := by rw [hsz]; simp
              match j, hop with
                | 0, hop =>
                  obtain rfl := Option.some.inj hop
                  have tq : a.tmps.getD 2 undef = .pointer (some ⟨w.heap.size, 0, none⟩) := hsl 2 rfl
                  exact .plain rfl (wp_val (w' := wa) (v := (.pointer (some ⟨w.heap.size, 4, none⟩))) (by simp only [execOp, Act.eval]; rw [show a.tmps.getD 2 undef = _ from tq]; kernel_rfl) (hK _ _ (Below.refl _ _) rfl))
                | 1, hop =>
                  obtain rfl := Option.some.inj hop
                  have t0 : a.tmps.getD 70 undef = (.pointer (some ⟨w.heap.size, 4, none⟩)) := hdep 0 _ 70 rfl rfl ⟨⟨0, .data⟩, by simp, rfl, rfl⟩
                  have hc := (hwa.cell (p := ⟨w.heap.size, 4, none⟩) (show w.heap.size < wr.heap.size from (Array.getElem?_eq_some_iff.1 hbr.out).1)).trans c4
                  exact .plain rfl (wp_val (w' := wa) (v := (.slice (some ⟨b, o, none⟩) cp.length pc)) (by simp only [execOp, Act.eval]; rw [show a.tmps.getD 70 undef = _ from t0]; simp only [Sem.run_bind, ld_sP hc, Result.andThen_ok, Sem.run_pure]) (hK _ _ (Below.refl _ _) rfl))
                | 2, hop =>
                  obtain rfl := Option.some.inj hop
                  have tq : a.tmps.getD 6 undef = (.int .i64 (i : Nat)) := hsl 6 rfl
                  exact .plain rfl (wp_val (w' := wa) (v := (.int .i64 (i : Nat))) (by simp only [execOp, Act.eval]; rw [show a.tmps.getD 6 undef = _ from tq]; rfl) (hK _ _ (Below.refl _ _) rfl))
                | 3, hop =>
                  obtain rfl := Option.some.inj hop
                  have t1 : a.tmps.getD 71 undef = (.slice (some ⟨b, o, none⟩) cp.length pc) := hdep 1 _ 71 rfl rfl ⟨⟨1, .data⟩, by simp, rfl, rfl⟩
                  have t2 : a.tmps.getD 72 undef = (.int .i64 (i : Nat)) := hdep 2 _ 72 rfl rfl ⟨⟨2, .data⟩, by simp, rfl, rfl⟩
                  exact .plain rfl (wp_val (w' := wa) (v := (.pointer (some ⟨b, o + i * 6, none⟩))) (by simp only [execOp, Act.eval]; rw [show a.tmps.getD 71 undef = _ from t1, show a.tmps.getD 72 undef = _ from t2]; simp only [Sem.run_bind, ix_oP hlt, Result.andThen_ok, Sem.run_pure]) (hK _ _ (Below.refl _ _) rfl))
                | 4, hop =>
                  obtain rfl := Option.some.inj hop
                  have t3 : a.tmps.getD 73 undef = (.pointer (some ⟨b, o + i * 6, none⟩)) := hdep 3 _ 73 rfl rfl ⟨⟨3, .data⟩, by simp, rfl, rfl⟩
                  exact .plain rfl (wp_val (w' := wa) (v := (.pointer (some ⟨b, o + i * 6, none⟩))) (by simp only [execOp, Act.eval]; rw [show a.tmps.getD 73 undef = _ from t3]; kernel_rfl) (hK _ _ (Below.refl _ _) rfl))
                | 5, hop =>
                  obtain rfl := Option.some.inj hop
                  have t4 : a.tmps.getD 74 undef = (.pointer (some ⟨b, o + i * 6, none⟩)) := hdep 4 _ 74 rfl rfl ⟨⟨4, .data⟩, by simp, rfl, rfl⟩
                  have hc : wa.cell? ⟨b, o + i * 6, none⟩ = some (.string (st u.1)) := by
                    rw [World.cell?_of_block (w := w) (hBa.block b hbl)]
                    exact hr.out 0 _ rfl
                  exact .plain rfl (wp_val (w' := wa) (v := (.string (st u.1))) (by simp only [execOp, Act.eval]; rw [show a.tmps.getD 74 undef = _ from t4]; simp only [Sem.run_bind, ld_s0 hc, Result.andThen_ok, Sem.run_pure]) (hK _ _ (Below.refl _ _) rfl))
                | 6, hop =>
                  obtain rfl := Option.some.inj hop
                  have tq : a.tmps.getD 3 undef = .pointer (some ⟨w.heap.size + 1, 0, none⟩) := hsl 3 rfl
                  exact .plain rfl (wp_val (w' := wa) (v := (.pointer (some ⟨w.heap.size + 1, 4, none⟩))) (by simp only [execOp, Act.eval]; rw [show a.tmps.getD 3 undef = _ from tq]; kernel_rfl) (hK _ _ (Below.refl _ _) rfl))
                | 7, hop =>
                  obtain rfl := Option.some.inj hop
                  have t6 : a.tmps.getD 76 undef = (.pointer (some ⟨w.heap.size + 1, 4, none⟩)) := hdep 6 _ 76 rfl rfl ⟨⟨6, .data⟩, by simp, rfl, rfl⟩
                  have hc := (hwa.cell (p := ⟨w.heap.size + 1, 4, none⟩) (show w.heap.size + 1 < wr.heap.size from (Array.getElem?_eq_some_iff.1 hbs.out).1)).trans d4
                  exact .plain rfl (wp_val (w' := wa) (v := (.slice (some ⟨b', o', none⟩) cp'.length pc')) (by simp only [execOp, Act.eval]; rw [show a.tmps.getD 76 undef = _ from t6]; simp only [Sem.run_bind, ld_sP hc, Result.andThen_ok, Sem.run_pure]) (hK _ _ (Below.refl _ _) rfl))
                | 8, hop =>
                  obtain rfl := Option.some.inj hop
                  have tq : a.tmps.getD 6 undef = (.int .i64 (i : Nat)) := hsl 6 rfl
                  exact .plain rfl (wp_val (w' := wa) (v := (.int .i64 (i : Nat))) (by simp only [execOp, Act.eval]; rw [show a.tmps.getD 6 undef = _ from tq]; rfl) (hK _ _ (Below.refl _ _) rfl))
                | 9, hop =>
                  obtain rfl := Option.some.inj hop
                  have t7 : a.tmps.getD 77 undef = (.slice (some ⟨b', o', none⟩) cp'.length pc') := hdep 7 _ 77 rfl rfl ⟨⟨7, .data⟩, by simp, rfl, rfl⟩
                  have t8 : a.tmps.getD 78 undef = (.int .i64 (i : Nat)) := hdep 8 _ 78 rfl rfl ⟨⟨8, .data⟩, by simp, rfl, rfl⟩
                  exact .plain rfl (wp_val (w' := wa) (v := (.pointer (some ⟨b', o' + i * 6, none⟩))) (by simp only [execOp, Act.eval]; rw [show a.tmps.getD 77 undef = _ from t7, show a.tmps.getD 78 undef = _ from t8]; simp only [Sem.run_bind, ix_oP hlt', Result.andThen_ok, Sem.run_pure]) (hK _ _ (Below.refl _ _) rfl))
                | 10, hop =>
                  obtain rfl := Option.some.inj hop
                  have t9 : a.tmps.getD 79 undef = (.pointer (some ⟨b', o' + i * 6, none⟩)) := hdep 9 _ 79 rfl rfl ⟨⟨9, .data⟩, by simp, rfl, rfl⟩
                  exact .plain rfl (wp_val (w' := wa) (v := (.pointer (some ⟨b', o' + i * 6, none⟩))) (by simp only [execOp, Act.eval]; rw [show a.tmps.getD 79 undef = _ from t9]; kernel_rfl) (hK _ _ (Below.refl _ _) rfl))
                | 11, hop =>
                  obtain rfl := Option.some.inj hop
                  have t10 : a.tmps.getD 80 undef = (.pointer (some ⟨b', o' + i * 6, none⟩)) := hdep 10 _ 80 rfl rfl ⟨⟨10, .data⟩, by simp, rfl, rfl⟩
                  have hc : wa.cell? ⟨b', o' + i * 6, none⟩ = some (.string (st u'.1)) := by
                    rw [World.cell?_of_block (w := w) (hBa.block b' hbl')]
                    exact hr'.out 0 _ rfl
                  exact .plain rfl (wp_val (w' := wa) (v := (.string (st u'.1))) (by simp only [execOp, Act.eval]; rw [show a.tmps.getD 80 undef = _ from t10]; simp only [Sem.run_bind, ld_s0 hc, Result.andThen_ok, Sem.run_pure]) (hK _ _ (Below.refl _ _) rfl))
                | 12, hop =>
                  obtain rfl := Option.some.inj hop
                  have t5 : a.tmps.getD 75 undef = (.string (st u.1)) := hdep 5 _ 75 rfl rfl ⟨⟨5, .data⟩, by simp, rfl, rfl⟩
                  have t11 : a.tmps.getD 81 undef = (.string (st u'.1)) := hdep 11 _ 81 rfl rfl ⟨⟨11, .data⟩, by simp, rfl, rfl⟩
                  exact .plain rfl (wp_val (w' := wa) (v := (.bool false)) (by simp only [execOp, Act.eval]; rw [show a.tmps.getD 75 undef = _ from t5, show a.tmps.getD 81 undef = _ from t11]; simp only [Sem.run_bind, eg_s, nq_s, decide_eq_true hnm, Bool.not_true, Result.andThen_ok, Sem.run_pure]) (hK _ _ (Below.refl _ _) rfl))
                | 13, hop =>
                  obtain rfl := Option.some.inj hop
                  have t12 : a.tmps.getD 82 undef = (.bool false) := hdep 12 _ 82 rfl rfl ⟨⟨12, .data⟩, by simp, rfl, rfl⟩
                  exact .plain rfl (wp_val (w' := wa) (v := (.bool false)) (by simp only [execOp, Act.eval]; rw [show a.tmps.getD 82 undef = _ from t12]; rfl) (hK _ _ (Below.refl _ _) rfl))
                | 14, hop =>
                  obtain rfl := Option.some.inj hop
                  have g13 : a.tmps.getD 83 undef = .bool false := hdep 13 _ 83 rfl rfl ⟨⟨13, .guard⟩, by simp, rfl, rfl⟩
                  have tq : a.tmps.getD 2 undef = .pointer (some ⟨w.heap.size, 0, none⟩) := hsl 2 rfl
                  exact .want rfl rfl hz83 g13 (wp_val (w' := wa) (v := (.pointer (some ⟨w.heap.size, 4, none⟩))) (by simp only [execOp, Act.eval]; rw [show a.tmps.getD 2 undef = _ from tq]; kernel_rfl) (hK _ _ (Below.refl _ _) rfl))
                | 15, hop =>
                  obtain rfl := Option.some.inj hop
                  have g13 : a.tmps.getD 83 undef = .bool false := hdep 13 _ 83 rfl rfl ⟨⟨13, .guard⟩, by simp, rfl, rfl⟩
                  have t14 : a.tmps.getD 84 undef = (.pointer (some ⟨w.heap.size, 4, none⟩)) := hdep 14 _ 84 rfl rfl ⟨⟨14, .data⟩, by simp, rfl, rfl⟩
                  have hc := (hwa.cell (p := ⟨w.heap.size, 4, none⟩) (show w.heap.size < wr.heap.size from (Array.getElem?_eq_some_iff.1 hbr.out).1)).trans c4
                  exact .want rfl rfl hz83 g13 (wp_val (w' := wa) (v := (.slice (some ⟨b, o, none⟩) cp.length pc)) (by simp only [execOp, Act.eval]; rw [show a.tmps.getD 84 undef = _ from t14]; simp only [Sem.run_bind, ld_sP hc, Result.andThen_ok, Sem.run_pure]) (hK _ _ (Below.refl _ _) rfl))
                | 16, hop =>
                  obtain rfl := Option.some.inj hop
                  have g13 : a.tmps.getD 83 undef = .bool false := hdep 13 _ 83 rfl rfl ⟨⟨13, .guard⟩, by simp, rfl, rfl⟩
                  have tq : a.tmps.getD 6 undef = (.int .i64 (i : Nat)) := hsl 6 rfl
                  exact .want rfl rfl hz83 g13 (wp_val (w' := wa) (v := (.int .i64 (i : Nat))) (by simp only [execOp, Act.eval]; rw [show a.tmps.getD 6 undef = _ from tq]; rfl) (hK _ _ (Below.refl _ _) rfl))
                | 17, hop =>
                  obtain rfl := Option.some.inj hop
                  have g13 : a.tmps.getD 83 undef = .bool false := hdep 13 _ 83 rfl rfl ⟨⟨13, .guard⟩, by simp, rfl, rfl⟩
                  have t15 : a.tmps.getD 85 undef = (.slice (some ⟨b, o, none⟩) cp.length pc) := hdep 15 _ 85 rfl rfl ⟨⟨15, .data⟩, by simp, rfl, rfl⟩
                  have t16 : a.tmps.getD 86 undef = (.int .i64 (i : Nat)) := hdep 16 _ 86 rfl rfl ⟨⟨16, .data⟩, by simp, rfl, rfl⟩
                  exact .want rfl rfl hz83 g13 (wp_val (w' := wa) (v := (.pointer (some ⟨b, o + i * 6, none⟩))) (by simp only [execOp, Act.eval]; rw [show a.tmps.getD 85 undef = _ from t15, show a.tmps.getD 86 undef = _ from t16]; simp only [Sem.run_bind, ix_oP hlt, Result.andThen_ok, Sem.run_pure]) (hK _ _ (Below.refl _ _) rfl))
                | 18, hop =>
                  obtain rfl := Option.some.inj hop
                  have g13 : a.tmps.getD 83 undef = .bool false := hdep 13 _ 83 rfl rfl ⟨⟨13, .guard⟩, by simp, rfl, rfl⟩
                  have t17 : a.tmps.getD 87 undef = (.pointer (some ⟨b, o + i * 6, none⟩)) := hdep 17 _ 87 rfl rfl ⟨⟨17, .data⟩, by simp, rfl, rfl⟩
                  exact .want rfl rfl hz83 g13 (wp_val (w' := wa) (v := (.pointer (some ⟨b, o + i * 6 + 1, none⟩))) (by simp only [execOp, Act.eval]; rw [show a.tmps.getD 87 undef = _ from t17]; kernel_rfl) (hK _ _ (Below.refl _ _) rfl))
                | 19, hop =>
                  obtain rfl := Option.some.inj hop
                  have g13 : a.tmps.getD 83 undef = .bool false := hdep 13 _ 83 rfl rfl ⟨⟨13, .guard⟩, by simp, rfl, rfl⟩
                  have t18 : a.tmps.getD 88 undef = (.pointer (some ⟨b, o + i * 6 + 1, none⟩)) := hdep 18 _ 88 rfl rfl ⟨⟨18, .data⟩, by simp, rfl, rfl⟩
                  have hrr : wa.rangeAt b (o + i * 6 + 1) [x1, x2, x3, x4, x5] := fun q v hq => by
                    rw [World.cell?_of_block (w := w) (hBa.block b hbl)]
                    have := hr.out (q + 1) v (by simpa using hq)
                    rw [show o + i * 6 + 1 + q = o + i * 6 + (q + 1) by omega]
                    exact this
                  exact .want rfl rfl hz83 g13 (wp_val (w' := wa) (v := (.agg #[x1, x2, x3, x4, x5])) (by simp only [execOp, Act.eval]; rw [show a.tmps.getD 88 undef = _ from t18]; simp only [Sem.run_bind, ld_mV hrr, Result.andThen_ok, Sem.run_pure]) (hK _ _ (Below.refl _ _) rfl))
                | 20, hop =>
                  obtain rfl := Option.some.inj hop
                  have g13 : a.tmps.getD 83 undef = .bool false := hdep 13 _ 83 rfl rfl ⟨⟨13, .guard⟩, by simp, rfl, rfl⟩
                  have tq : a.tmps.getD 3 undef = .pointer (some ⟨w.heap.size + 1, 0, none⟩) := hsl 3 rfl
                  exact .want rfl rfl hz83 g13 (wp_val (w' := wa) (v := (.pointer (some ⟨w.heap.size + 1, 4, none⟩))) (by simp only [execOp, Act.eval]; rw [show a.tmps.getD 3 undef = _ from tq]; kernel_rfl) (hK _ _ (Below.refl _ _) rfl))
                | 21, hop =>
                  obtain rfl := Option.some.inj hop
                  have g13 : a.tmps.getD 83 undef = .bool false := hdep 13 _ 83 rfl rfl ⟨⟨13, .guard⟩, by simp, rfl, rfl⟩
                  have t20 : a.tmps.getD 90 undef = (.pointer (some ⟨w.heap.size + 1, 4, none⟩)) := hdep 20 _ 90 rfl rfl ⟨⟨20, .data⟩, by simp, rfl, rfl⟩
                  have hc := (hwa.cell (p := ⟨w.heap.size + 1, 4, none⟩) (show w.heap.size + 1 < wr.heap.size from (Array.getElem?_eq_some_iff.1 hbs.out).1)).trans d4
                  exact .want rfl rfl hz83 g13 (wp_val (w' := wa) (v := (.slice (some ⟨b', o', none⟩) cp'.length pc')) (by simp only [execOp, Act.eval]; rw [show a.tmps.getD 90 undef = _ from t20]; simp only [Sem.run_bind, ld_sP hc, Result.andThen_ok, Sem.run_pure]) (hK _ _ (Below.refl _ _) rfl))
                | 22, hop =>
                  obtain rfl := Option.some.inj hop
                  have g13 : a.tmps.getD 83 undef = .bool false := hdep 13 _ 83 rfl rfl ⟨⟨13, .guard⟩, by simp, rfl, rfl⟩
                  have tq : a.tmps.getD 6 undef = (.int .i64 (i : Nat)) := hsl 6 rfl
                  exact .want rfl rfl hz83 g13 (wp_val (w' := wa) (v := (.int .i64 (i : Nat))) (by simp only [execOp, Act.eval]; rw [show a.tmps.getD 6 undef = _ from tq]; rfl) (hK _ _ (Below.refl _ _) rfl))
                | 23, hop =>
                  obtain rfl := Option.some.inj hop
                  have g13 : a.tmps.getD 83 undef = .bool false := hdep 13 _ 83 rfl rfl ⟨⟨13, .guard⟩, by simp, rfl, rfl⟩
                  have t21 : a.tmps.getD 91 undef = (.slice (some ⟨b', o', none⟩) cp'.length pc') := hdep 21 _ 91 rfl rfl ⟨⟨21, .data⟩, by simp, rfl, rfl⟩
                  have t22 : a.tmps.getD 92 undef = (.int .i64 (i : Nat)) := hdep 22 _ 92 rfl rfl ⟨⟨22, .data⟩, by simp, rfl, rfl⟩
                  exact .want rfl rfl hz83 g13 (wp_val (w' := wa) (v := (.pointer (some ⟨b', o' + i * 6, none⟩))) (by simp only [execOp, Act.eval]; rw [show a.tmps.getD 91 undef = _ from t21, show a.tmps.getD 92 undef = _ from t22]; simp only [Sem.run_bind, ix_oP hlt', Result.andThen_ok, Sem.run_pure]) (hK _ _ (Below.refl _ _) rfl))
                | 24, hop =>
                  obtain rfl := Option.some.inj hop
                  have g13 : a.tmps.getD 83 undef = .bool false := hdep 13 _ 83 rfl rfl ⟨⟨13, .guard⟩, by simp, rfl, rfl⟩
                  have t23 : a.tmps.getD 93 undef = (.pointer (some ⟨b', o' + i * 6, none⟩)) := hdep 23 _ 93 rfl rfl ⟨⟨23, .data⟩, by simp, rfl, rfl⟩
                  exact .want rfl rfl hz83 g13 (wp_val (w' := wa) (v := (.pointer (some ⟨b', o' + i * 6 + 1, none⟩))) (by simp only [execOp, Act.eval]; rw [show a.tmps.getD 93 undef = _ from t23]; kernel_rfl) (hK _ _ (Below.refl _ _) rfl))
                | 25, hop =>
                  obtain rfl := Option.some.inj hop
                  have g13 : a.tmps.getD 83 undef = .bool false := hdep 13 _ 83 rfl rfl ⟨⟨13, .guard⟩, by simp, rfl, rfl⟩
                  have t24 : a.tmps.getD 94 undef = (.pointer (some ⟨b', o' + i * 6 + 1, none⟩)) := hdep 24 _ 94 rfl rfl ⟨⟨24, .data⟩, by simp, rfl, rfl⟩
                  have hrr : wa.rangeAt b' (o' + i * 6 + 1) [z1, z2, z3, z4, z5] := fun q v hq => by
                    rw [World.cell?_of_block (w := w) (hBa.block b' hbl')]
                    have := hr'.out (q + 1) v (by simpa using hq)
                    rw [show o' + i * 6 + 1 + q = o' + i * 6 + (q + 1) by omega]
                    exact this
                  exact .want rfl rfl hz83 g13 (wp_val (w' := wa) (v := (.agg #[z1, z2, z3, z4, z5])) (by simp only [execOp, Act.eval]; rw [show a.tmps.getD 94 undef = _ from t24]; simp only [Sem.run_bind, ld_mV hrr, Result.andThen_ok, Sem.run_pure]) (hK _ _ (Below.refl _ _) rfl))
                | 26, hop =>
                  obtain rfl := Option.some.inj hop
                  have g13 : a.tmps.getD 83 undef = .bool false := hdep 13 _ 83 rfl rfl ⟨⟨13, .guard⟩, by simp, rfl, rfl⟩
                  have t19 : a.tmps.getD 89 undef = (.agg #[x1, x2, x3, x4, x5]) := hdep 19 _ 89 rfl rfl ⟨⟨19, .data⟩, by simp, rfl, rfl⟩
                  have t25 : a.tmps.getD 95 undef = (.agg #[z1, z2, z3, z4, z5]) := hdep 25 _ 95 rfl rfl ⟨⟨25, .data⟩, by simp, rfl, rfl⟩
                  have hcal := ih (c := [x1, x2, x3, x4, x5]) (c' := [z1, z2, z3, z4, z5]) hhu (VA.frame (c := [x1, x2, x3, x4, x5]) hxu.out (w' := wa) (G := F) (fun j _ hj => hBa.block j hj) (fun _ h _ => h)) (VA.frame (c := [z1, z2, z3, z4, z5]) hxu'.out (w' := wa) (G := G) (fun j _ hj => hBa.block j hj) (fun _ h _ => h))
                  refine .want rfl rfl hz83 g13 (oper_any (J := fun r w' => r = .bool (exB h u.2 u'.2) ∧ Below wa.heap.size wa w') 16 #[.tmp 89, .tmp 95] _ rfl #[.agg #[x1, x2, x3, x4, x5], .agg #[z1, z2, z3, z4, z5]] (by simp only [List.map_toArray, List.map_cons, List.map_nil, Act.eval]; rw [show a.tmps.getD 89 undef = _ from t19, show a.tmps.getD 95 undef = _ from t25]) (fun w => by kernel_rfl) (hcal.mono fun e w' h => ⟨_, h.1, rfl, h.2⟩) ?_)
                  rintro r w' ⟨rfl, hb⟩
                  exact hK _ _ hb rfl
                | 27, hop =>
                  obtain rfl := Option.some.inj hop
                  have g13 : a.tmps.getD 83 undef = .bool false := hdep 13 _ 83 rfl rfl ⟨⟨13, .guard⟩, by simp, rfl, rfl⟩
                  have t26 : a.tmps.getD 96 undef = (.bool (exB h u.2 u'.2)) := hdep 26 _ 96 rfl rfl ⟨⟨26, .data⟩, by simp, rfl, rfl⟩
                  exact .want rfl rfl hz83 g13 (wp_val (w' := wa) (v := (.bool (!exB h u.2 u'.2))) (by simp only [execOp, Act.eval]; rw [show a.tmps.getD 96 undef = _ from t26]; kernel_rfl) (hK _ _ (Below.refl _ _) rfl))
                | 28, _ => exact absurd rfl hj
                | _ + 29, hop => exact absurd hop (by simp)
            · intro a wa hwa hdf hsz hsl hrr K hK
              have g13 : a.tmps.getD 83 undef = (.bool false) := hrr 13 _ 83 rfl (by decide) rfl
              have g27 : a.tmps.getD 97 undef = (.bool (!exB h u.2 u'.2)) := hrr 27 _ 97 rfl (by decide) rfl
              have hbw2 := hide1 (hbw.out.trans (hwa.mono hbw.out.size))
              refine .plain rfl (wp_val (w' := wa) (v := (.bool (!exB h u.2 u'.2))) (by simp only [execOp, Act.eval]; rw [show a.tmps.getD 83 undef = _ from g13, show a.tmps.getD 97 undef = _ from g27]; rfl) ?_)
              refine hK _ wa ?_
              have hact := act_puts hdf hsz hsl
              have hBf := hide1 (hB.out.trans (hwa.mono hB.out.size))
              clear hrr hsl hdf hsz hK g13 g27 ih
              simp only [List.filterMap_cons, List.filterMap_nil, List.foldl_cons, List.foldl_nil] at hact
              rw [hact]
              generalize a.tmps.getD 70 undef = y70
              generalize a.tmps.getD 71 undef = y71
              generalize a.tmps.getD 72 undef = y72
              generalize a.tmps.getD 73 undef = y73
              generalize a.tmps.getD 74 undef = y74
              generalize a.tmps.getD 75 undef = y75
              generalize a.tmps.getD 76 undef = y76
              generalize a.tmps.getD 77 undef = y77
              generalize a.tmps.getD 78 undef = y78
              generalize a.tmps.getD 79 undef = y79
              generalize a.tmps.getD 80 undef = y80
              generalize a.tmps.getD 81 undef = y81
              generalize a.tmps.getD 82 undef = y82
              generalize a.tmps.getD 83 undef = y83
              generalize a.tmps.getD 84 undef = y84
              generalize a.tmps.getD 85 undef = y85
              generalize a.tmps.getD 86 undef = y86
              generalize a.tmps.getD 87 undef = y87
              generalize a.tmps.getD 88 undef = y88
              generalize a.tmps.getD 89 undef = y89
              generalize a.tmps.getD 90 undef = y90
              generalize a.tmps.getD 91 undef = y91
              generalize a.tmps.getD 92 undef = y92
              generalize a.tmps.getD 93 undef = y93
              generalize a.tmps.getD 94 undef = y94
              generalize a.tmps.getD 95 undef = y95
              generalize a.tmps.getD 96 undef = y96
              generalize a.tmps.getD 97 undef = y97
              generalize a.tmps.getD 98 undef = y98
              clear hact a
              rw [decide_eq_true hnm, Bool.true_and] at hms
              cases hex : exB h u.2 u'.2 with
              | true =>
                rw [hex, Bool.true_and] at hms
                refine (‹∀ (a : Act) (w : World), Code.wp Tryz.prog _ _ a w → _›) _ wa ?_
                simp only [Bool.not_true, Act.put, List.setIfInBounds_toArray, List.set_cons_succ, List.set_cons_zero]
                go_wp2
                go_roundw
                case rel => exact ⟨i + 1, rfl, by omega, hide1 hms.out.symm, hbw2⟩
                case measure => simp [intOf]; omega
              | false =>
                rw [hex, Bool.false_and] at hms
                refine (‹∀ (a : Act) (w : World), Code.wp Tryz.prog _ _ a w → _›) _ wa ?_
                have hf : Hid ((Ending.returned (.bool false) : Ending) = .returned (.bool E) ∧ Below w.heap.size w wa) := hide1 ⟨hout.out _ (by rw [hE3.out, hms.out]), hBf.out⟩
                simp only [Bool.not_false, Act.put, List.setIfInBounds_toArray, List.set_cons_succ, List.set_cons_zero]
                go_wp2
                go_ret
                exact hf.out
          · have hie : i = cp.length := by omega
            subst hie
            clear hlt
            have hf : Hid ((Ending.returned (.bool true) : Ending) = .returned (.bool E) ∧ Below w.heap.size w wr) := hide1 ⟨hout.out _ (by
              rw [hE3.out, ← hme.out, List.drop_of_length_le (by have := e2.out; omega)]
              cases p'.drop cp.length <;> rfl), hB.out⟩
            go_wp2
            go_ret
            exact hf.out
theorem ex_d : ∀ h, Eok h
  | 0 => fun hh => hh.elim
  | h + 1 => ex_s (ex_d h)
def En (q : List UInt8) : Prop := ∃ p c, q = p ++ [c] ∧ bk.contains c = false
theorem En.app {q : List UInt8} (a : List UInt8) (h : En q) : En (a ++ q) := by
  obtain ⟨p, c, rfl, hc⟩ := h
  exact ⟨a ++ p, c, by simp, hc⟩
theorem En.one {c : UInt8} (h : bk.contains c = false) : En [c] := ⟨[], c, rfl, h⟩
theorem En.ne {q : List UInt8} (h : En q) : q ≠ [] := by
  obtain ⟨p, c, rfl, _⟩ := h; simp
def nd (l : List UInt8) : Prop := ∀ b m, l = b :: m → dg b = false
theorem hp1 {b : UInt8} {l : List UInt8} (h : hp [b] l = true) : ∃ m, l = b :: m := by
  cases l with
  | nil => simp [hp] at h
  | cons c m => simp [hp] at h; exact ⟨m, by rw [h]⟩
theorem hpw {p l : List UInt8} (h : hp p l = true) : l = p ++ tk p l := by
  unfold hp at h
  unfold tk
  rw [if_pos h]
  obtain ⟨t, rfl⟩ := List.isPrefixOf_iff_prefix.1 h
  simp
theorem dec_go {b : UInt8} (t : List UInt8) : Lib.decodeGo (st (b :: t)) = Lib.decodeL (b :: t) := by
  unfold Lib.decodeGo
  rw [if_neg (by rw [st_size]; simp)]
  rfl
theorem dec_sw {l : List UInt8} (hne : l ≠ []) (hv : ¬ ((Lib.decodeL l).1 = 65533 ∧ (Lib.decodeL l).2 = 1)) : ∃ q, l = q ++ l.drop (Lib.decodeL l).2 ∧ q ≠ [] ∧ q.length = (Lib.decodeL l).2 ∧ ∀ r', Lib.decodeL (q ++ r') = Lib.decodeL l := by
  have hw1 := Lib.decodeL_width l
  have hw2 := Lib.decodeL_le l hne
  refine ⟨l.take (Lib.decodeL l).2, (List.take_append_drop _ _).symm, ?_, by simp; omega, ?_⟩
  · intro h
    have := congrArg List.length h
    rw [List.length_take, List.length_nil] at this
    omega
  · intro r'
    rw [Lib.decodeL_N] at hv ⊢
    rw [Lib.decodeL_N]
    rcases Lib.decodeN_shape l.length (l.getD 0 0).toNat (l.getD 1 0).toNat (l.getD 2 0).toNat (l.getD 3 0).toNat with ⟨c, e⟩ | ⟨c1, c2, c3, cv, e⟩ | ⟨c1, c2, c3, c4, cv, cs, e⟩ | ⟨c1, c2, c3, c4, c5, cv, cw, e⟩ | e
    · have hl : 0 < l.length := List.length_pos_iff.2 hne
      rw [e]
      simp only
      rw [Lib.takeA l hl]
      unfold Lib.decodeN
      rw [if_pos (by simpa using c)]
      rfl
    · rw [e]
      simp only
      rw [Lib.takeB l c2]
      simp only [List.cons_append, List.nil_append, List.length_cons, List.getD_cons_zero, List.getD_cons_succ]
      unfold Lib.decodeN
      rw [if_neg (by omega), if_pos ⟨c1, by omega, c3⟩, if_pos cv]
    · rw [e]
      simp only
      rw [Lib.takeC l c2]
      simp only [List.cons_append, List.nil_append, List.length_cons, List.getD_cons_zero, List.getD_cons_succ]
      unfold Lib.decodeN
      rw [if_neg (by omega), if_neg (by omega), if_pos ⟨c1, ⟨by omega, c3⟩, by omega, c4⟩, if_pos ⟨cv, by omega⟩]
    · rw [e]
      simp only
      rw [Lib.takeD l c2]
      simp only [List.cons_append, List.nil_append, List.length_cons, List.getD_cons_zero, List.getD_cons_succ]
      unfold Lib.decodeN
      rw [if_neg (by omega), if_neg (by omega), if_neg (by omega), if_pos ⟨c1, ⟨by omega, c3⟩, ⟨by omega, c4⟩, by omega, c5⟩, if_pos ⟨cv, by omega⟩]
    · rw [e] at hv
      exact absurd ⟨rfl, rfl⟩ hv
section
variable {α : Type} {one : List UInt8 → Option (α × List UInt8)} {e : UInt8}
end
def T.kd : T → Int
  | .mk k _ _ _ _ => k
end Go.Proofs.YtbemaloaobeblaaGreatDoor

namespace Go.Proofs.YtbemaloaobeblaaGreatDoor
open Go.RowKit Go.Shelf

def bv (l : List UInt8) : List Value := l.map fun x => Value.int .u8 (x.toNat : Nat)
theorem bv_app (a b : List UInt8) : bv (a ++ b) = bv a ++ bv b := by simp [bv]
theorem bv_len (l : List UInt8) : (bv l).length = l.length := by simp [bv]
abbrev Ow (w : World) (B : Nat) (v : Value) (l : List UInt8) : Prop := w.ownsRow B 5 1 v l.length (bv l)
theorem Ow.bs {w : World} {B : Nat} {v : Value} {l : List UInt8} (h : Ow w B v l) : BsA w v l := by
  obtain ⟨h1, ⟨rfl, h2⟩ | ⟨g, cap, cur, rfl, hB, hg, hn, hm, hs, ht⟩⟩ := h
  · exact ⟨none, 0, by rw [h2], .inl (List.length_eq_zero_iff.1 h2)⟩
  · refine ⟨_, cap, rfl, .inr ⟨g, 0, rfl, (Array.getElem?_eq_some_iff.1 hg).1, fun j x hj => ?_⟩⟩
    simp only [World.cell?, hg]
    rw [Nat.zero_add, ← Array.getElem?_toList]
    have hjl := (List.getElem?_eq_some_iff.1 hj).1
    have e := congrArg (·[j]?) ht
    simp only [List.getElem?_take] at e
    rw [if_pos (by omega)] at e
    rw [e]
    simp [bv, hj]
theorem Ow.slc {w : World} {B : Nat} {v : Value} {l : List UInt8} (h : Ow w B v l) : ∃ a cap, v = .slice a l.length cap := by
  obtain ⟨a, cap, rfl, _⟩ := h.bs
  exact ⟨a, cap, rfl⟩
theorem Ow.later {w w' : World} {B : Nat} {v : Value} {l : List UInt8} (h : Ow w B v l) (hb : Below w.heap.size w w') : Ow w' B v l := by
  obtain ⟨h1, h2 | ⟨g, cap, cur, hv, hB, hg, r⟩⟩ := h
  · exact ⟨h1, .inl h2⟩
  · exact ⟨h1, .inr ⟨g, cap, cur, hv, hB, (hb.block g (Array.getElem?_eq_some_iff.1 hg).1).trans hg, r⟩⟩
theorem Ow.block {w : World} {B : Nat} {v : Value} {l : List UInt8} (h : Ow w B v l) : ∀ g, v.ownBlock = some g → B ≤ g := by
  obtain ⟨h1, ⟨rfl, h2⟩ | ⟨g, cap, cur, rfl, hB, _⟩⟩ := h
  · intro g e; cases e
  · intro g' e; cases e; exact hB
theorem info_u8 : (Tryz.prog.info? 5).map (fun i => (i.zero, i.size, i.bytes)) = some (some (.int .u8 0), 1, 1) := by kernel_rfl
theorem BsA.grown {w w' : World} {u : Value} {m : List UInt8} {row : Option Nat} {B : Nat} (h : BsA w u m) (hg : w.grownBy w' row) (hr : ∀ r, row = some r → B ≤ r) (hu : ∀ a n c, u = .slice (some a) n c → a.block < B) : BsA w' u m := by
  obtain ⟨a, cap, rfl, h | ⟨b, o, rfl, hb, hc⟩⟩ := h
  · exact ⟨a, cap, rfl, .inl h⟩
  · have hbB := hu _ _ _ rfl
    refine ⟨_, cap, rfl, .inr ⟨b, o, rfl, Nat.lt_of_lt_of_le hb hg.size, fun j x hj => ?_⟩⟩
    rw [World.cell?_of_block (w := w) (hg.block b hb (fun e => by have := hr b e.symm; simp at hbB; omega))]
    exact hc j x hj
section
variable {α : Type} {one : List UInt8 → Option (α × List UInt8)} {e : UInt8}
theorem its_all {Pp : α → Prop} {N : Nat} (ho : ∀ l x r, one l = some (x, r) → l.length ≤ N → Pp x ∧ r.length ≤ l.length) : ∀ (n : Nat) {xs ys : List α} {l r : List UInt8}, its one e n xs l = some (ys, r) → l.length ≤ N → (∀ x ∈ xs, Pp x) → (∀ x ∈ ys, Pp x) ∧ ys.length ≤ xs.length + l.length + 1
  | n, xs, ys, l, r, h, hN, hx => by
    cases h1 : one l with
    | none => rw [its_non h1] at h; cases h
    | some y =>
      obtain ⟨x, q⟩ := y
      obtain ⟨a, hql⟩ := ho _ _ _ h1 hN
      have hxs : ∀ z ∈ xs ++ [x], Pp z := fun z hz => by
        rcases List.mem_append.1 hz with hz | hz
        · exact hx z hz
        · simp at hz; subst hz; exact a
      cases he : hp [e] (sk q) with
      | true =>
        rw [its_end h1 he] at h; cases h
        exact ⟨hxs, by simp⟩
      | false =>
        cases hc : hp [44] (sk q) with
        | false => rw [its_bad h1 he hc] at h; cases h
        | true =>
          cases n with
          | zero => rw [its, h1] at h; simp [he, hc] at h
          | succ n =>
            rw [its_go h1 he hc] at h
            have t1 := tk_lt hc
            have t2 := sk_le q
            obtain ⟨g1, g2⟩ := its_all ho n h (by omega) hxs
            refine ⟨g1, ?_⟩
            simp only [List.length_append, List.length_cons, List.length_nil] at g2
            omega
theorem rw_all {Pp : α → Prop} {N : Nat} {b : UInt8} (ho : ∀ l x r, one l = some (x, r) → l.length ≤ N → Pp x ∧ r.length ≤ l.length) {ys : List α} {l r : List UInt8} (h : rw' one b e l = some (ys, r)) (hN : l.length ≤ N) : (∀ x ∈ ys, Pp x) ∧ ys.length ≤ l.length + 1 := by
  unfold rw' at h
  have a := sk_le l
  have c := tk_le [b] (sk l)
  have f := sk_le (tk [b] (sk l))
  split at h
  · split at h
    · cases h; exact ⟨by simp, by simp⟩
    · obtain ⟨g1, g2⟩ := its_all ho _ h (by omega) (by simp)
      exact ⟨g1, by simp at g2; omega⟩
  · cases h
end
theorem pv_hgt : ∀ (n : Nat) (l : List UInt8) (x : T) (r : List UInt8), pv n l = some (x, r) → l.length ≤ 4096 → hgt (n + 1) x
  | n, l, x, r, h, hN => by
    have a := sk_le l
    unfold pv at h
    generalize sk l = m at *
    have leaf : ∀ k i s, hgt (n + 1) (.mk k i s [] []) := fun k i s => ⟨by simp, by simp, by simp, by simp⟩
    cases m with
    | nil => cases h
    | cons b m =>
      simp only at h
      split at h
      · split at h
        · cases h; exact leaf _ _ _
        · cases h
      · split at h
        · split at h
          · cases h; exact leaf _ _ _
          · cases h
        · split at h
          · split at h
            · cases h; exact leaf _ _ _
            · cases h
          · split at h
            · split at h
              · cases h
              · cases h; exact leaf _ _ _
            · split at h
              · cases n with
                | zero => cases h
                | succ n =>
                  simp only at h
                  split at h
                  · cases h
                  · rename_i hq
                    cases h
                    obtain ⟨g1, g2⟩ := rw_all (N := 4096) (Pp := hgt (n + 1)) (fun l x r h hl => ⟨pv_hgt n l x r h hl, pv_le n l x r h⟩) hq (by omega)
                    exact ⟨by omega, by simp, g1, by simp⟩
              · split at h
                · cases n with
                  | zero => cases h
                  | succ n =>
                    simp only at h
                    split at h
                    · cases h
                    · rename_i hq
                      split at h
                      · cases h
                        obtain ⟨g1, g2⟩ := rw_all (N := 4096) (Pp := fun q : List UInt8 × T => hgt (n + 1) q.2) (fun l x r h hl => by
                          refine ⟨?_, pr_le (pv_le n) h⟩
                          unfold pr at h
                          have b1 := sk_le l
                          split at h
                          · cases h
                          · rename_i s q hq
                            have b2 := qt_le hq
                            have b3 := sk_le q
                            have b4 := tk_le [58] (sk q)
                            split at h
                            · split at h
                              · cases h
                              · rename_i v t hv
                                cases h
                                exact pv_hgt n _ _ _ hv (by omega)
                            · cases h) hq (by omega)
                        exact ⟨by simp, by omega, by simp, g1⟩
                      · cases h
                · split at h
                  · cases h
                  · cases h; exact leaf _ _ _
def cj : List (List UInt8) → List UInt8
  | [] => []
  | x :: r => x ++ r.flatMap fun y => 44 :: y
theorem cj_snoc (xs : List (List UInt8)) (x : List UInt8) : cj (xs ++ [x]) = if xs = [] then x else cj xs ++ 44 :: x := by
  cases xs with
  | nil => simp [cj]
  | cons y r => simp [cj]
def cz : Nat → T → List UInt8
  | 0, _ => []
  | n + 1, .mk k i s l p => if k = 0 then [110, 117, 108, 108] else if k = 1 then Lib.formatBool (decide (i = 1)) else if k = 2 then Lib.itoa i else if k = 3 then qu s
    else if k = 4 then 91 :: (cj (l.map (cz n)) ++ [93]) else if k = 5 then 123 :: (cj (p.map fun q => qu q.1 ++ 58 :: cz n q.2) ++ [125]) else []
theorem wpList_aps {w : World} {ops : Array Oper} {rest : List Oper} {o : Oper} {a : Act} {Q : Exit → Act → World → Prop} (hgd : o.guard = none) (s x : Operand)
    (ho : o.op = .call { callee := .builtin .append, args := #[s, x], argTypes := #[22, 9] }) (B : Nat) (v : Value) (l : List UInt8) (hs : a.eval s = v) (hown : Ow w B v l)
    (m : List UInt8) (hx : a.eval x = .string (st m)) (hn : l.length + m.length ≤ 1000000) (hB : B ≤ w.heap.size)
    (h : ∀ v' w', Ow w' B v' (l ++ m) → w.grownBy w' v.ownBlock → (∀ k, v'.ownBlock = some k → v.ownBlock = some k ∨ w.heap.size ≤ k) → wpList Tryz.prog ops Q rest (a.put o.dst v') w') : wpList Tryz.prog ops Q (o :: rest) a w := by
  refine wpList_plain hgd fun K hK => ?_
  obtain ⟨i0, hi, he⟩ := Option.map_eq_some_iff.1 info_u8
  simp only [Prod.mk.injEq] at he
  obtain ⟨hz0, hz1, hz2⟩ := he
  have hsz := st_size m
  obtain ⟨v', w', hr, h2, h3, _⟩ := Go.Lib.run_append_own_string (P := Tryz.prog) (w := w) B 22 9 o.type 5 i0 Tryz.underlying22 Tryz.underlying9 hi hz0 hz1 hz2 v l.length (bv l) hown (st m) (by unfold maxLen; omega) (by omega) hB
  have hblk : ∀ k, v'.ownBlock = some k → v.ownBlock = some k ∨ w.heap.size ≤ k := by
    rcases id hown.2 with ⟨rfl, hl0⟩ | ⟨g, cap, cur, rfl, hbg, hg, hnc, hcm, hcs, htake⟩
    · obtain rfl : l = [] := List.length_eq_zero_iff.1 hl0
      obtain ⟨v2, w2, hr2, h4, _⟩ := Go.Lib.run_append_own_string (P := Tryz.prog) (w := w) w.heap.size 22 9 o.type 5 i0 Tryz.underlying22 Tryz.underlying9 hi hz0 hz1 hz2 (.slice none 0 0) 0 [] (World.ownsRow_nil w w.heap.size 5 1) (st m) (by unfold maxLen; omega) (by omega) (Nat.le_refl _)
      rw [hr] at hr2
      cases hr2
      intro k hk
      obtain ⟨_, ⟨rfl, _⟩ | ⟨g', cap', cur', rfl, hB', _⟩⟩ := h4
      · cases hk
      · cases hk; exact .inr hB'
    · intro k hk
      by_cases hroom : l.length + (st m).size ≤ cap
      · have hr2 := Go.Lib.run_append_room_string (P := Tryz.prog) w 22 9 o.type 5 i0 Tryz.underlying22 Tryz.underlying9 hi hz1 g l.length cap cur hg (st m) hroom (by rw [Nat.mul_one] at hcs; omega)
        rw [hr] at hr2
        cases hr2
        exact .inl hk
      · have holds : ∀ j u, (bv l)[j]? = some u → w.cell? ((⟨g, 0, none⟩ : Addr).add j) = some u := World.ownsRow.cells (g := g) hown rfl
        have hr2 := Go.Lib.run_append_grow_string (P := Tryz.prog) w 22 9 o.type 5 i0 (.int .u8 0) Tryz.underlying22 Tryz.underlying9 hi hz0 ⟨g, 0, none⟩ l.length cap (bv l) (by rw [hz1, bv_len, Nat.mul_one]) holds (st m) (by omega) (by omega) (by rw [hz2]; exact growslice_fits (by omega) (by omega))
        rw [hr] at hr2
        cases hr2
        cases hk
        exact .inr (Nat.le_refl _)
  have h2' : Ow w' B v' (l ++ m) := by
    unfold Ow
    rw [bv_app, List.length_append, ← hsz]
    exact h2
  unfold Oper.wp execOp
  simp only [ho, resolve, invoke, builtin, Sem.run_bind, Sem.run_pure, Result.andThen_ok, List.map_toArray, List.map_cons, List.map_nil, hs, hx, hr]
  exact hK _ _ (h v' w' h2' h3 hblk)
structure Wk (q : Nat) (ov ov' : Value) (w w' : World) : Prop where
  os : w'.os = w.os
  tape : w'.tape = w.tape
  output : w'.output = w.output
  size : w.heap.size ≤ w'.heap.size
  block : ∀ k, k < w.heap.size → k ≠ q → ov.ownBlock ≠ some k → w'.heap[k]? = w.heap[k]?
  own : ∀ k, ov'.ownBlock = some k → ov.ownBlock = some k ∨ w.heap.size ≤ k
theorem Wk.refl (q : Nat) (ov : Value) (w : World) : Wk q ov ov w w := ⟨rfl, rfl, rfl, Nat.le_refl _, fun _ _ _ _ => rfl, fun _ h => .inl h⟩
theorem Wk.trans {q : Nat} {a b c : Value} {w w1 w2 : World} (h : Wk q a b w w1) (h2 : Wk q b c w1 w2) : Wk q a c w w2 :=
  ⟨h2.os.trans h.os, h2.tape.trans h.tape, h2.output.trans h.output, Nat.le_trans h.size h2.size, fun k hk hq ho => (h2.block k (Nat.lt_of_lt_of_le hk h.size) hq fun e => (h.own k e).elim ho fun e => by omega).trans (h.block k hk hq ho),
    fun k e => (h2.own k e).elim (h.own k) fun e => .inr (Nat.le_trans h.size e)⟩
theorem Wk.below {q : Nat} {a b : Value} {w w1 w2 : World} (h : Wk q a b w w1) (h2 : Below w1.heap.size w1 w2) : Wk q a b w w2 :=
  ⟨h2.os.trans h.os, h2.tape.trans h.tape, h2.output.trans h.output, Nat.le_trans h.size h2.size, fun k hk hq ho => (h2.block k (Nat.lt_of_lt_of_le hk h.size)).trans (h.block k hk hq ho), h.own⟩
theorem Wk.ofB {q : Nat} {a : Value} {w w1 : World} (h : Below w.heap.size w w1) : Wk q a a w w1 := (Wk.refl q a w).below h
structure Wt (w : World) (q : Nat) (ov : Value) (z : List UInt8) : Prop where
  box : w.heap[q]? = some (.cells #[ov, .bool (decide (4096 < z.length))] 66 (0, 0))
  own : ∃ out, Ow w (q + 1) ov out ∧ out.length ≤ 4096 ∧ (4096 < z.length ∨ out = z)
theorem Wt.below {w w' : World} {q : Nat} {ov : Value} {z : List UInt8} (h : Wt w q ov z) (hb : Below w.heap.size w w') : Wt w' q ov z := by
  obtain ⟨h1, out, h2, h3⟩ := h
  exact ⟨(hb.block q (Array.getElem?_eq_some_iff.1 h1).1).trans h1, out, h2.later hb, h3⟩
theorem Ow.row {w : World} {q : Nat} {v : Value} {l : List UInt8} (h : Ow w (q + 1) v l) (c : Array Value) : Ow (w.setRow q c) (q + 1) v l :=
  own_kept h fun k e => setRow_other w q k c (by have := h.block k e; omega)
theorem Wk.row {w : World} {q : Nat} (ov ov' : Value) (c : Array Value) (ho : ∀ k, ov'.ownBlock = some k → ov.ownBlock = some k ∨ w.heap.size ≤ k) : Wk q ov ov' w (w.setRow q c) :=
  ⟨rfl, rfl, rfl, by simp [World.setRow], fun k _ hq _ => setRow_other w q k c hq, ho⟩
theorem sw_row {w : World} {q i : Nat} {c : Array Value} {v : Value} (h : w.heap[q]? = some (.cells c 66 (0, 0))) : w.setCell ⟨q, i, none⟩ v = w.setRow q (c.setIfInBounds i v) := setCell_eq_setRow w q i _ _ (0, 0) v h
set_option maxHeartbeats 1600000 in
set_option maxRecDepth 100000 in
theorem add_d {w : World} {q : Nat} {ov : Value} {z s : List UInt8} (h : Wt w q ov z) : Calls Tryz.prog 58 #[.pointer (some ⟨q, 0, none⟩), .string (st s)] w fun e w' => e = .returned (.tuple #[]) ∧ ∃ ov', Wt w' q ov' (z ++ s) ∧ Wk q ov ov' w w' := by
  obtain ⟨hbx, out, hown, hl, hz⟩ := h
  have hsz : Hid ((st s).size = s.length) := hide1 (st_size s)
  have f0 : w.frozen? ⟨q, 0, none⟩ = false := by simp [World.frozen?, hbx]
  have f1 : w.frozen? ⟨q, 1, none⟩ = false := by simp [World.frozen?, hbx]
  have hql := (Array.getElem?_eq_some_iff.1 hbx).1
  by_cases hov : 4096 < z.length
  · rw [decide_eq_true hov] at hbx
    have c1 : w.cell? ⟨q, 1, none⟩ = some (.bool true) := by simp only [World.cell?, hbx]; rfl
    have e1 : w.setCell ⟨q, 1, none⟩ (.bool true) = w.setRow q #[ov, .bool true] := by rw [sw_row hbx]; rfl
    have hn := setRow_heap w q _ #[ov, .bool true] _ _ hbx
    have c2 : (w.setCell ⟨q, 1, none⟩ (.bool true)).cell? ⟨q, 1, none⟩ = some (.bool true) := by rw [e1]; simp only [World.cell?, hn]; rfl
    have hf : Hid (Wt (w.setCell ⟨q, 1, none⟩ (.bool true)) q ov (z ++ s) ∧ Wk q ov ov w (w.setCell ⟨q, 1, none⟩ (.bool true))) := hide1 (by
      have hzs : 4096 < (z ++ s).length := by rw [List.length_append]; omega
      rw [e1]
      exact ⟨⟨by rw [decide_eq_true hzs]; exact hn, out, hown.row _, hl, .inl hzs⟩, Wk.row _ _ _ fun _ h => .inl h⟩)
    clear hown hz hbx e1 hn
    go_enter Tryz.func58, Tryz.ntmps58
    go_wp2
    go_end0
    exact ⟨rfl, ov, hf.out⟩
  · obtain rfl : out = z := hz.resolve_left hov
    rw [decide_eq_false hov] at hbx
    obtain ⟨oa, oc, rfl⟩ := hown.slc
    have c0 : w.cell? ⟨q, 0, none⟩ = some (.slice oa out.length oc) := by simp only [World.cell?, hbx]; rfl
    have c1 : w.cell? ⟨q, 1, none⟩ = some (.bool false) := by simp only [World.cell?, hbx]; rfl
    obtain ⟨N, hN⟩ : ∃ N, Hid (N = out.length) := ⟨_, hide1 rfl⟩
    by_cases hs : 4096 < out.length + s.length
    · have e1 : w.setCell ⟨q, 1, none⟩ (.bool true) = w.setRow q #[.slice oa out.length oc, .bool true] := by rw [sw_row hbx]; rfl
      have hn := setRow_heap w q _ #[.slice oa out.length oc, .bool true] _ _ hbx
      have c2 : (w.setCell ⟨q, 1, none⟩ (.bool true)).cell? ⟨q, 1, none⟩ = some (.bool true) := by rw [e1]; simp only [World.cell?, hn]; rfl
      have hf : Hid (Wt (w.setCell ⟨q, 1, none⟩ (.bool true)) q (.slice oa out.length oc) (out ++ s) ∧ Wk q (.slice oa out.length oc) (.slice oa out.length oc) w (w.setCell ⟨q, 1, none⟩ (.bool true))) := hide1 (by
        have hzs : 4096 < (out ++ s).length := by rw [List.length_append]; omega
        rw [e1]
        exact ⟨⟨by rw [decide_eq_true hzs]; exact hn, out, hown.row _, hl, .inl hzs⟩, Wk.row _ _ _ fun _ h => .inl h⟩)
      have ht : (4096 : Int) - (out.length : Int) < ((st s).size : Int) := by rw [hsz.out]; omega
      clear hown hz hbx e1 hn
      go_enter Tryz.func58, Tryz.ntmps58
      go_wp2
      go_end0
      exact ⟨rfl, _, hf.out⟩
    · have e1 : w.setCell ⟨q, 1, none⟩ (.bool false) = w.setRow q #[.slice oa out.length oc, .bool false] := by rw [sw_row hbx]; rfl
      have hn := setRow_heap w q _ #[.slice oa out.length oc, .bool false] _ _ hbx
      obtain ⟨w1, hw1⟩ : ∃ w1, w1 = w.setCell ⟨q, 1, none⟩ (.bool false) := ⟨_, rfl⟩
      rw [← hw1] at e1
      rw [← e1] at hn
      have c2 : w1.cell? ⟨q, 1, none⟩ = some (.bool false) := by simp only [World.cell?, hn]; rfl
      have c3 : w1.cell? ⟨q, 0, none⟩ = some (.slice oa out.length oc) := by simp only [World.cell?, hn]; rfl
      have hown1 : Ow w1 (q + 1) (.slice oa out.length oc) out := by rw [e1]; exact hown.row _
      have hk1 : Wk q (.slice oa out.length oc) (.slice oa out.length oc) w w1 := by rw [e1]; exact Wk.row _ _ _ fun _ h => .inl h
      have hs1 : q + 1 ≤ w1.heap.size := (Array.getElem?_eq_some_iff.1 hn).1
      have ht : ¬ (4096 : Int) - (out.length : Int) < ((st s).size : Int) := by rw [hsz.out]; omega
      have hz3 : Hid (decide (4096 < (out ++ s).length) = false ∧ (out ++ s).length ≤ 4096) := hide1 (by
        rw [List.length_append]
        exact ⟨decide_eq_false hs, by omega⟩)
      replace hk1 := hide1 hk1
      replace hn := hide1 hn
      clear hown hz hbx e1
      go_enter Tryz.func58, Tryz.ntmps58
      go_upto_region 1 with fail
      rw [← hw1]
      clear hw1
      go_wp2_with (at_builtin; refine wpList_aps rfl (.tmp 31) (.tmp 32) rfl (q + 1) _ out rfl hown1 s rfl (by omega) hs1 ?_; intro v2 w2 hown2 hg2 hb2; obtain ⟨oa2, oc2, hv2⟩ := hown2.slc; subst hv2; have hn2 : w2.heap[q]? = some (.cells #[.slice oa out.length oc, .bool false] 66 (0, 0)) := (hg2.block q (by omega) (fun e => by have := hown1.block q e.symm; omega)).trans hn.out; have c4 : w2.cell? ⟨q, 0, none⟩ = some (.slice oa out.length oc) := (by simp only [World.cell?, hn2]; rfl); have f4 : w2.frozen? ⟨q, 0, none⟩ = false := (by simp [World.frozen?, hn2]); replace hn2 := hide1 hn2; replace hown2 := hide1 hown2; replace hg2 := hide1 hg2; replace hb2 := hide1 hb2)
      go_end0
      rw [← List.length_append]
      have e3 : w2.setCell ⟨q, 0, none⟩ (.slice oa2 (out ++ s).length oc2) = w2.setRow q #[(.slice oa2 (out ++ s).length oc2), .bool false] := by rw [sw_row hn2.out]; rfl
      rw [e3]
      have hn3 := setRow_heap w2 q _ #[(.slice oa2 (out ++ s).length oc2), .bool false] _ _ hn2.out
      refine ⟨rfl, (.slice oa2 (out ++ s).length oc2), ⟨by rw [hz3.out.1]; exact hn3, out ++ s, hown2.out.row _, hz3.out.2, .inr rfl⟩, ?_⟩
      have hg := hg2.out
      exact hk1.out.trans ⟨hg.os, hg.tape, hg.output, by simpa [World.setRow] using hg.size, fun k hk hq ho => (setRow_other w2 q k _ hq).trans (hg.block k hk (fun e => ho e.symm)), hb2.out⟩
end Go.Proofs.YtbemaloaobeblaaGreatDoor

namespace Go.Proofs.YtbemaloaobeblaaGreatDoor
section
variable {α : Type} (lt : α → α → Bool)
def mg : List α → List α → List α
  | [], B => B
  | x :: A, B => B.takeWhile (lt · x) ++ x :: mg A (B.dropWhile (lt · x))
def ss (L : List α) : List α := L.foldl (fun P x => mg lt P [x]) []
def Ri (L : List α) : Prop := L.Pairwise fun a b => lt b a = false
structure Ok : Prop where
  irr : ∀ a, lt a a = false
  tr : ∀ a b c, lt a b = true → lt b c = true → lt a c = true
  wk : ∀ a b c, lt a b = true → lt a c = true ∨ lt c b = true
variable {lt}
theorem mg_nil (A : List α) : mg lt A [] = A := by
  induction A with
  | nil => rfl
  | cons x A ih => simp [mg, ih]
theorem tw_app {p : α → Bool} {B C : List α} (h : ∀ c ∈ C, p c = false) : (B ++ C).takeWhile p = B.takeWhile p ∧ (B ++ C).dropWhile p = B.dropWhile p ++ C := by
  induction B with
  | nil =>
    cases C with
    | nil => simp
    | cons c C => have := h c (by simp); simp [this]
  | cons b B ih =>
    by_cases hb : p b = true
    · simp [hb, ih.1, ih.2]
    · simp [hb]
theorem tw_all {p : α → Bool} {B C : List α} (h : ∀ b ∈ B, p b = true) : (B ++ C).takeWhile p = B ++ C.takeWhile p ∧ (B ++ C).dropWhile p = C.dropWhile p := by
  induction B with
  | nil => simp
  | cons b B ih =>
    have h1 := h b (by simp)
    have h2 := ih fun x hx => h x (by simp [hx])
    simp [h1, h2.1, h2.2]
theorem mg_split {A2 B2 : List α} : ∀ {A1 B1 : List α}, (∀ b ∈ B1, ∀ a ∈ A2, lt b a = true) → (∀ a ∈ A1, ∀ b ∈ B2, lt b a = false) → mg lt (A1 ++ A2) (B1 ++ B2) = mg lt A1 B1 ++ mg lt A2 B2
  | [], B1, h1, h2 => by
    cases A2 with
    | nil => simp [mg]
    | cons x A =>
      have h := tw_all (p := (lt · x)) (B := B1) (C := B2) fun b hb => h1 b hb x (by simp)
      simp only [List.nil_append, mg]
      rw [h.1, h.2, List.append_assoc]
  | x :: A1, B1, h1, h2 => by
    have h := tw_app (p := (lt · x)) (B := B1) (C := B2) fun b hb => h2 x (by simp) b hb
    simp only [List.cons_append, mg]
    rw [h.1, h.2, mg_split (fun b hb a ha => h1 b ((List.dropWhile_sublist _).subset hb) a ha) (fun a ha b hb => h2 a (by simp [ha]) b hb), List.append_assoc, List.cons_append]
theorem or_rot (p q r s : Prop) : (p ∨ q ∨ r ∨ s) ↔ ((q ∨ r) ∨ (p ∨ s)) := by grind
theorem mg_mem {x : α} : ∀ {A B : List α}, x ∈ mg lt A B ↔ x ∈ A ∨ x ∈ B
  | [], B => by simp [mg]
  | y :: A, B => by
    have h : x ∈ B ↔ x ∈ B.takeWhile (lt · y) ∨ x ∈ B.dropWhile (lt · y) := by
      rw [← List.mem_append, List.takeWhile_append_dropWhile]
    simp only [mg, List.mem_append, List.mem_cons, mg_mem (A := A), h]
    exact or_rot _ _ _ _
theorem mg_len : ∀ (A B : List α), (mg lt A B).length = A.length + B.length
  | [], B => by simp [mg]
  | y :: A, B => by
    have h := congrArg List.length (List.takeWhile_append_dropWhile (p := (lt · y)) (l := B))
    rw [List.length_append] at h
    simp only [mg, List.length_append, List.length_cons, mg_len A]
    omega
theorem mg_perm : ∀ (A B : List α), (mg lt A B).Perm (A ++ B)
  | [], B => by simp [mg]
  | y :: A, B => by
    simp only [mg, List.cons_append]
    refine List.perm_middle.trans (List.Perm.cons _ ?_)
    refine ((mg_perm A _).append_left _).trans ?_
    rw [← List.append_assoc]
    refine (List.perm_append_comm.append_right _).trans ?_
    rw [List.append_assoc, List.takeWhile_append_dropWhile]
theorem part (h : Ok lt) (x : α) : ∀ {A : List α}, Ri lt A → ∃ A1 A2, A = A1 ++ A2 ∧ (∀ a ∈ A1, lt x a = false) ∧ (∀ a ∈ A2, lt x a = true)
  | [], _ => ⟨[], [], rfl, by simp, by simp⟩
  | a :: A, hr => by
    have hr2 := List.pairwise_cons.1 hr
    cases hx : lt x a with
    | true => exact ⟨[], a :: A, rfl, by simp, fun b hb => by
        rcases List.mem_cons.1 hb with rfl | hb
        · exact hx
        · rcases h.wk x a b hx with h3 | h3
          · exact h3
          · rw [hr2.1 b hb] at h3; cases h3⟩
    | false =>
      obtain ⟨A1, A2, e, h1, h2⟩ := part h x hr2.2
      exact ⟨a :: A1, A2, by rw [e]; rfl, fun b hb => by
        rcases List.mem_cons.1 hb with rfl | hb
        · exact hx
        · exact h1 b hb, h2⟩
theorem part' (h : Ok lt) (x : α) : ∀ {A : List α}, Ri lt A → (∀ a ∈ A.dropWhile (lt · x), lt a x = false)
  | [], _ => by simp
  | a :: A, hr => by
    have hr2 := List.pairwise_cons.1 hr
    cases hx : lt a x with
    | true => simp only [List.dropWhile_cons, hx, if_true]; exact part' h x hr2.2
    | false =>
      simp only [List.dropWhile_cons, hx]
      intro b hb
      rcases List.mem_cons.1 (by simpa using hb) with rfl | hb
      · exact hx
      · cases hbx : lt b x with
        | false => rfl
        | true =>
          rcases h.wk b x a hbx with h3 | h3
          · rw [hr2.1 b hb] at h3; cases h3
          · rw [hx] at h3; cases h3
theorem tw_mem {p : α → Bool} {x : α} : ∀ {B : List α}, x ∈ B.takeWhile p → p x = true
  | [], h => by simp at h
  | b :: B, h => by
    rw [List.takeWhile_cons] at h
    split at h
    · rename_i hb
      rcases List.mem_cons.1 h with rfl | h
      · exact hb
      · exact tw_mem h
    · simp at h
theorem mg_ri (h : Ok lt) : ∀ {A B : List α}, Ri lt A → Ri lt B → Ri lt (mg lt A B)
  | [], B, _, hB => hB
  | x :: A, B, hA, hB => by
    have hA2 := List.pairwise_cons.1 hA
    have hd := part' h x hB
    have hB2 : Ri lt (B.takeWhile (lt · x) ++ B.dropWhile (lt · x)) := by rw [List.takeWhile_append_dropWhile]; exact hB
    have hB3 := List.pairwise_append.1 hB2
    refine List.pairwise_append.2 ⟨hB3.1, List.pairwise_cons.2 ⟨fun b hb => ?_, mg_ri h hA2.2 hB3.2.1⟩, fun a ha b hb => ?_⟩
    · rcases mg_mem.1 hb with hb | hb
      · exact hA2.1 b hb
      · exact hd b hb
    · have hax := tw_mem ha
      rcases List.mem_cons.1 hb with rfl | hb
      · cases e : lt b a with
        | false => rfl
        | true => have := h.tr _ _ _ e hax; rw [h.irr] at this; cases this
      · rcases mg_mem.1 hb with hb | hb
        · cases e : lt b a with
          | false => rfl
          | true => have := h.tr _ _ _ e hax; rw [hA2.1 b hb] at this; cases this
        · exact hB3.2.2 a ha b hb
theorem mg_one (h : Ok lt) {A B : List α} (x : α) (hA : Ri lt A) (hB : Ri lt B) : mg lt (mg lt A B) [x] = mg lt A (mg lt B [x]) := by
  obtain ⟨A1, A2, rfl, a1, a2⟩ := part h x hA
  obtain ⟨B1, B2, rfl, b1, b2⟩ := part h x hB
  have q : ∀ {a b : α}, lt x a = false → lt x b = true → lt a b = true := fun {a b} ha hb => by
    rcases h.wk x b a hb with h3 | h3
    · rw [ha] at h3; cases h3
    · exact h3
  have q2 : ∀ {a b : α}, lt x a = false → lt x b = true → lt b a = false := fun {a b} ha hb => by
    cases e : lt b a with
    | false => rfl
    | true => have := h.tr _ _ _ (q ha hb) e; rw [h.irr] at this; cases this
  have e1 : mg lt (A1 ++ A2) (B1 ++ B2) = mg lt A1 B1 ++ mg lt A2 B2 := mg_split (fun b hb a ha => q (b1 b hb) (a2 a ha)) (fun a ha b hb => q2 (a1 a ha) (b2 b hb))
  have ins : ∀ {S1 S2 : List α}, (∀ s ∈ S1, lt x s = false) → (∀ s ∈ S2, lt x s = true) → mg lt (S1 ++ S2) [x] = S1 ++ x :: S2 := fun {S1 S2} h1 h2 => by
    have e := mg_split (lt := lt) (A1 := S1) (A2 := S2) (B1 := []) (B2 := [x]) (by simp) (fun a ha b hb => by rcases List.mem_singleton.1 hb with rfl; exact h1 a ha)
    have e2 := mg_split (lt := lt) (A1 := []) (A2 := S2) (B1 := [x]) (B2 := []) (fun b hb a ha => by rcases List.mem_singleton.1 hb with rfl; exact h2 a ha) (by simp)
    simp only [List.nil_append, List.append_nil, mg_nil, mg] at e e2
    rw [e, e2]
    rfl
  rw [e1, ins (fun s hs => (mg_mem.1 hs).elim (a1 s) (b1 s)) (fun s hs => (mg_mem.1 hs).elim (a2 s) (b2 s)), ins b1 b2]
  rw [show B1 ++ x :: B2 = (B1 ++ [x]) ++ B2 by simp]
  rw [mg_split (B1 := B1 ++ [x]) (fun b hb a ha => by
    rcases List.mem_append.1 hb with hb | hb
    · exact q (b1 b hb) (a2 a ha)
    · rcases List.mem_singleton.1 hb with rfl; exact a2 a ha) (fun a ha b hb => q2 (a1 a ha) (b2 b hb))]
  have e3 := mg_split (lt := lt) (A1 := A1) (A2 := []) (B1 := B1) (B2 := [x]) (by simp) (fun a ha b hb => by rcases List.mem_singleton.1 hb with rfl; exact a1 a ha)
  simp only [List.append_nil, mg] at e3
  rw [e3]
  simp
theorem ss_snoc (L : List α) (x : α) : ss lt (L ++ [x]) = mg lt (ss lt L) [x] := by simp [ss]
theorem rev_ind {P : List α → Prop} (h0 : P []) (h1 : ∀ L x, P L → P (L ++ [x])) (L : List α) : P L := by
  have h : ∀ M : List α, P M.reverse := fun M => by
    induction M with
    | nil => exact h0
    | cons x M ih => rw [List.reverse_cons]; exact h1 _ _ ih
  have := h L.reverse
  rwa [List.reverse_reverse] at this
theorem ss_ri (h : Ok lt) (L : List α) : Ri lt (ss lt L) := by
  refine rev_ind (P := fun L => Ri lt (ss lt L)) List.Pairwise.nil (fun L x ih => ?_) L
  rw [ss_snoc]
  exact mg_ri h ih (List.pairwise_singleton _ _)
theorem ss_len (L : List α) : (ss lt L).length = L.length := by
  refine rev_ind (P := fun L => (ss lt L).length = L.length) rfl (fun L x ih => ?_) L
  rw [ss_snoc, mg_len, ih]
  simp
theorem ss_perm (L : List α) : (ss lt L).Perm L := by
  refine rev_ind (P := fun L => (ss lt L).Perm L) (List.Perm.refl _) (fun L x ih => ?_) L
  rw [ss_snoc]
  exact (mg_perm _ _).trans (ih.append_right _)
theorem ss_app (h : Ok lt) (L M : List α) : ss lt (L ++ M) = mg lt (ss lt L) (ss lt M) := by
  refine rev_ind (P := fun M => ss lt (L ++ M) = mg lt (ss lt L) (ss lt M)) ?_ (fun M x ih => ?_) M
  · simp [ss, mg_nil]
  · rw [← List.append_assoc, ss_snoc, ih, ss_snoc, mg_one h x (ss_ri h L) (ss_ri h M)]
end

section
variable {α : Type} {lt : α → α → Bool}
def sg (F : Nat → α) (a n : Nat) : List α := (List.range n).map fun i => F (a + i)
def sr (F : Nat → α) (a b n : Nat) : Nat → α := fun k => if a ≤ k ∧ k < a + n then F (k - a + b) else if b ≤ k ∧ k < b + n then F (k - b + a) else F k
def rot (F : Nat → α) (a m b : Nat) : Nat → α := fun k => if a ≤ k ∧ k < a + (b - m) then F (k - a + m) else if a + (b - m) ≤ k ∧ k < b then F (k - (b - m)) else F k
theorem sg_len (F : Nat → α) (a n : Nat) : (sg F a n).length = n := by simp [sg]
theorem sg_at {F : Nat → α} {a n j : Nat} (h : j < n) : (sg F a n)[j]? = some (F (a + j)) := by simp [sg, List.getElem?_map, List.getElem?_range h]
theorem sg_mem {F : Nat → α} {a n : Nat} {x : α} : x ∈ sg F a n ↔ ∃ k, a ≤ k ∧ k < a + n ∧ F k = x := by
  simp only [sg, List.mem_map, List.mem_range]
  constructor
  · rintro ⟨i, hi, rfl⟩
    exact ⟨a + i, by omega, by omega, rfl⟩
  · rintro ⟨k, h1, h2, rfl⟩
    exact ⟨k - a, by omega, by congr 1; omega⟩
theorem sg_congr {F G : Nat → α} {a b n : Nat} (h : ∀ i, i < n → F (a + i) = G (b + i)) : sg F a n = sg G b n := by
  refine List.map_congr_left fun i hi => h i (List.mem_range.1 hi)
theorem sg_app (F : Nat → α) (a n m : Nat) : sg F a (n + m) = sg F a n ++ sg F (a + n) m := by
  simp only [sg, List.range_add, List.map_append, List.map_map]
  congr 1
  refine List.map_congr_left fun i _ => ?_
  simp [Nat.add_assoc]
theorem sg_one (F : Nat → α) (a : Nat) : sg F a 1 = [F a] := by simp [sg]
theorem sg_nil (F : Nat → α) (a : Nat) : sg F a 0 = [] := rfl
theorem sg_cut (F : Nat → α) {a m b : Nat} (h1 : a ≤ m) (h2 : m ≤ b) : sg F a (b - a) = sg F a (m - a) ++ sg F m (b - m) := by
  have := sg_app F a (m - a) (b - m)
  rw [show m - a + (b - m) = b - a by omega, show a + (m - a) = m by omega] at this
  exact this
theorem rot_id (F : Nat → α) {a m b : Nat} (h : a = m ∨ m = b) : rot F a m b = F := by
  funext k
  unfold rot
  rcases h with rfl | rfl
  · split
    · congr 1; omega
    · split
      · omega
      · rfl
  · split
    · omega
    · split
      · congr 1; omega
      · rfl
theorem rot_gt (F : Nat → α) {m i j : Nat} (h1 : j < i) (h2 : i ≤ m) : rot (sr F (m - i) m j) (m - (i - j)) m (m + j) = rot F (m - i) m (m + j) := by
  funext k
  unfold rot sr
  try dsimp only
  (repeat' split) <;> first | rfl | omega | (congr 1; omega)
theorem rot_lt (F : Nat → α) {m i j : Nat} (h1 : i < j) (h2 : i ≤ m) : rot (sr F (m - i) (m + j - i) i) (m - i) m (m + (j - i)) = rot F (m - i) m (m + j) := by
  funext k
  unfold rot sr
  try dsimp only
  (repeat' split) <;> first | rfl | omega | (congr 1; omega)
theorem rot_eq (F : Nat → α) {m i : Nat} (h2 : i ≤ m) : sr F (m - i) m i = rot F (m - i) m (m + i) := by
  funext k
  unfold rot sr
  try dsimp only
  (repeat' split) <;> first | rfl | omega | (congr 1; omega)
theorem sr_0 (F : Nat → α) (a b : Nat) : sr F a b 0 = F := by
  funext k
  unfold sr
  try dsimp only
  (repeat' split) <;> first | rfl | omega
theorem sr_s (F : Nat → α) {a b i : Nat} (h : a + i < b) : sr (sr F a b i) (a + i) (b + i) 1 = sr F a b (i + 1) := by
  funext k
  unfold sr
  try dsimp only
  (repeat' split) <;> first | rfl | omega | (congr 1; omega)
theorem rot_up (F : Nat → α) {a k : Nat} (h : a ≤ k) : sr (rot F a (a + 1) (k + 1)) k (k + 1) 1 = rot F a (a + 1) (k + 2) := by
  funext x
  unfold rot sr
  try dsimp only
  (repeat' split) <;> first | rfl | omega | (congr 1; omega)
theorem rot_dn (F : Nat → α) {m k : Nat} (h : k + 1 ≤ m) : sr (rot F (k + 1) m (m + 1)) (k + 1) k 1 = rot F k m (m + 1) := by
  funext x
  unfold rot sr
  try dsimp only
  (repeat' split) <;> first | rfl | omega | (congr 1; omega)
theorem rot_mg {F : Nat → α} {a s m e b : Nat} (h1 : a ≤ s) (h2 : s ≤ m) (h3 : m ≤ e) (h4 : e ≤ b)
    (hl : ∀ k, m ≤ k → k < e → ∀ k', s ≤ k' → k' < m → lt (F k) (F k') = true) (hg : ∀ k', a ≤ k' → k' < s → ∀ k, e ≤ k → k < b → lt (F k) (F k') = false) :
    mg lt (sg F a (m - a)) (sg F m (b - m)) = mg lt (sg (rot F s m e) a (s - a)) (sg (rot F s m e) s (e - m)) ++ mg lt (sg (rot F s m e) (s + (e - m)) (m - s)) (sg (rot F s m e) e (b - e)) := by
  have e1 : sg (rot F s m e) a (s - a) = sg F a (s - a) := sg_congr fun i hi => by
    unfold rot; rw [if_neg (by omega), if_neg (by omega)]
  have e2 : sg (rot F s m e) s (e - m) = sg F m (e - m) := sg_congr fun i hi => by
    unfold rot; rw [if_pos (by omega)]; congr 1; omega
  have e3 : sg (rot F s m e) (s + (e - m)) (m - s) = sg F s (m - s) := sg_congr fun i hi => by
    unfold rot; rw [if_neg (by omega), if_pos (by omega)]; congr 1; omega
  have e4 : sg (rot F s m e) e (b - e) = sg F e (b - e) := sg_congr fun i hi => by
    unfold rot; rw [if_neg (by omega), if_neg (by omega)]
  rw [e1, e2, e3, e4, sg_cut F h1 h2, sg_cut F h3 h4]
  refine mg_split (fun x hx y hy => ?_) (fun y hy x hx => ?_)
  · obtain ⟨k, g1, g2, rfl⟩ := sg_mem.1 hx
    obtain ⟨k', g3, g4, rfl⟩ := sg_mem.1 hy
    exact hl k g1 (by omega) k' g3 (by omega)
  · obtain ⟨k, g1, g2, rfl⟩ := sg_mem.1 hx
    obtain ⟨k', g3, g4, rfl⟩ := sg_mem.1 hy
    exact hg k' g3 (by omega) k g1 (by omega)
def Mgd (lt : α → α → Bool) (F : Nat → α) (a m b : Nat) (G : Nat → α) : Prop := (∀ k, k < a ∨ b ≤ k → G k = F k) ∧ sg G a (b - a) = mg lt (sg F a (m - a)) (sg F m (b - m))
theorem mg_l1 {x : α} {B : List α} (h : ∀ b ∈ B, lt b x = false) : mg lt [x] B = x :: B := by
  have := tw_app (p := (lt · x)) (B := []) h
  simp only [List.nil_append, List.takeWhile_nil, List.dropWhile_nil] at this
  simp [mg, this.1, this.2]
theorem mg_r1 {x : α} : ∀ {A : List α}, (∀ a ∈ A, lt x a = false) → mg lt A [x] = A ++ [x]
  | [], _ => rfl
  | a :: A, h => by
    have h1 := h a (by simp)
    have h2 := mg_r1 (A := A) (x := x) fun b hb => h b (List.mem_cons_of_mem _ hb)
    simp [mg, h1, h2]
theorem mgd_l {F : Nat → α} {a i b : Nat} (h1 : a + 1 ≤ i) (h2 : i ≤ b) (hl : ∀ k, a + 1 ≤ k → k < i → lt (F k) (F a) = true) (hg : ∀ k, i ≤ k → k < b → lt (F k) (F a) = false) : Mgd lt F a (a + 1) b (rot F a (a + 1) i) := by
  refine ⟨fun k hk => by unfold rot; rw [if_neg (by omega), if_neg (by omega)], ?_⟩
  rw [rot_mg (s := a) (e := i) (Nat.le_refl _) (by omega) h1 h2 (fun k g1 g2 k' g3 g4 => by obtain rfl : k' = a := by omega
                                                                                            exact hl k g1 g2) (fun k' g1 g2 => by omega)]
  rw [Nat.sub_self, sg_nil, show a + 1 - a = 1 by omega, sg_one]
  simp only [mg]
  have hx : rot F a (a + 1) i (a + (i - (a + 1))) = F a := by unfold rot; rw [if_neg (by omega), if_pos (by omega)]; congr 1; omega
  rw [hx]
  have hB : ∀ x ∈ sg (rot F a (a + 1) i) i (b - i), lt x (F a) = false := fun x hx => by
    obtain ⟨k, g1, g2, rfl⟩ := sg_mem.1 hx
    have : rot F a (a + 1) i k = F k := by unfold rot; rw [if_neg (by omega), if_neg (by omega)]
    rw [this]
    exact hg k g1 (by omega)
  have hm := mg_l1 hB
  simp only [mg] at hm
  rw [hm, sg_cut (rot F a (a + 1) i) (a := a) (m := i) (b := b) (by omega) h2]
  rw [sg_cut (rot F a (a + 1) i) (a := a) (m := i - 1) (b := i) (by omega) (by omega), show i - (i - 1) = 1 by omega, sg_one, show i - 1 = a + (i - (a + 1)) by omega, hx]
  rw [show a + (i - (a + 1)) - a = i - (a + 1) by omega]
  simp
theorem mgd_r {F : Nat → α} {a i m : Nat} (h1 : a ≤ i) (h2 : i ≤ m) (hl : ∀ k, a ≤ k → k < i → lt (F m) (F k) = false) (hg : ∀ k, i ≤ k → k < m → lt (F m) (F k) = true) : Mgd lt F a m (m + 1) (rot F i m (m + 1)) := by
  refine ⟨fun k hk => by unfold rot; rw [if_neg (by omega), if_neg (by omega)], ?_⟩
  rw [rot_mg (s := i) (e := m + 1) h1 h2 (by omega) (Nat.le_refl _) (fun k g1 g2 k' g3 g4 => by obtain rfl : k = m := by omega
                                                                                                exact hg k' g3 g4) (fun k' g1 g2 k g3 g4 => by omega)]
  rw [Nat.sub_self, sg_nil, show m + 1 - m = 1 by omega, sg_one, mg_nil]
  have hx : rot F i m (m + 1) i = F m := by unfold rot; rw [if_pos (by omega)]; congr 1; omega
  rw [hx, mg_r1 (fun x hx => by
    obtain ⟨k, g1, g2, rfl⟩ := sg_mem.1 hx
    have : rot F i m (m + 1) k = F k := by unfold rot; rw [if_neg (by omega), if_neg (by omega)]
    rw [this]
    exact hl k g1 (by omega))]
  rw [sg_cut (rot F i m (m + 1)) (a := a) (m := i) (b := m + 1) h1 (by omega), sg_cut (rot F i m (m + 1)) (a := i) (m := i + 1) (b := m + 1) (by omega) (by omega), show i + 1 - i = 1 by omega, sg_one, hx, show m + 1 - (i + 1) = m - i by omega]
  simp
def Rs (lt : α → α → Bool) (F : Nat → α) (a b : Nat) : Prop := ∀ i j, a ≤ i → i < j → j < b → lt (F j) (F i) = false
theorem rs_sg {F : Nat → α} {a b : Nat} : Rs lt F a b ↔ Ri lt (sg F a (b - a)) := by
  unfold Ri sg
  rw [List.pairwise_map]
  constructor
  · intro h
    refine List.pairwise_lt_range.imp_of_mem fun {i j} hi hj hij => ?_
    rw [List.mem_range] at hi hj
    exact h _ _ (by omega) (by omega) (by omega)
  · intro h i j h1 h2 h3
    have := List.pairwise_iff_getElem.1 h (i - a) (j - a) (by simp; omega) (by simp; omega) (by omega)
    simp only [List.getElem_range] at this
    rw [show a + (i - a) = i by omega, show a + (j - a) = j by omega] at this
    exact this
theorem mgd_two {F G H : Nat → α} {a s m e b : Nat} (h1 : a ≤ s) (h2 : s ≤ m) (h3 : m ≤ e) (h4 : e ≤ b)
    (hl : ∀ k, m ≤ k → k < e → ∀ k', s ≤ k' → k' < m → lt (F k) (F k') = true) (hg : ∀ k', a ≤ k' → k' < s → ∀ k, e ≤ k → k < b → lt (F k) (F k') = false)
    (hG : Mgd lt (rot F s m e) a s (s + (e - m)) G) (hH : Mgd lt G (s + (e - m)) e b H) : Mgd lt F a m b H := by
  refine ⟨fun k hk => ?_, ?_⟩
  · rw [hH.1 k (by omega), hG.1 k (by omega)]
    unfold rot; rw [if_neg (by omega), if_neg (by omega)]
  · rw [rot_mg h1 h2 h3 h4 hl hg, sg_cut H (a := a) (m := s + (e - m)) (b := b) (by omega) (by omega)]
    have e1 : sg H a (s + (e - m) - a) = sg G a (s + (e - m) - a) := sg_congr fun i hi => hH.1 _ (by omega)
    have e2 : sg G (s + (e - m)) (e - (s + (e - m))) = sg (rot F s m e) (s + (e - m)) (m - s) := by
      rw [show e - (s + (e - m)) = m - s by omega]
      exact sg_congr fun i hi => hG.1 _ (by omega)
    have e3 : sg G e (b - e) = sg (rot F s m e) e (b - e) := sg_congr fun i hi => hG.1 _ (by omega)
    rw [e1, hG.2, hH.2, e2, e3, show s + (e - m) - s = e - m by omega]
theorem mgd_nl {F : Nat → α} {a b : Nat} : Mgd lt F a a b F := ⟨fun _ _ => rfl, by simp [sg_nil, mg]⟩
theorem mgd_nr {F : Nat → α} {a b : Nat} : Mgd lt F a b b F := ⟨fun _ _ => rfl, by simp [sg_nil, mg_nil]⟩
def Std (lt : α → α → Bool) (F : Nat → α) (a b : Nat) (G : Nat → α) : Prop := (∀ k, k < a ∨ b ≤ k → G k = F k) ∧ sg G a (b - a) = ss lt (sg F a (b - a))
theorem std_rs (h : Ok lt) {F G : Nat → α} {a b : Nat} (hs : Std lt F a b G) : Rs lt G a b := by
  rw [rs_sg, hs.2]; exact ss_ri h _
theorem std_1 {F : Nat → α} {a b : Nat} (h : b ≤ a + 1) : Std lt F a b F := ⟨fun _ _ => rfl, by
  rcases (by omega : b - a = 0 ∨ b - a = 1) with e | e <;> rw [e] <;> simp [sg, ss, mg]⟩
theorem std_s {F G H : Nat → α} {a m : Nat} (h : a ≤ m) (hs : Std lt F a m G) (hm : Mgd lt G a m (m + 1) H) : Std lt F a (m + 1) H := by
  refine ⟨fun k hk => by rw [hm.1 k (by omega), hs.1 k (by omega)], ?_⟩
  rw [hm.2, hs.2, sg_cut F h (Nat.le_succ m), show m + 1 - m = 1 by omega, sg_one, sg_one, hs.1 m (by omega), ss_snoc]
end
end Go.Proofs.YtbemaloaobeblaaGreatDoor

namespace Go.Proofs.YtbemaloaobeblaaGreatDoor
open Go.Op
abbrev bl := bytesLess
theorem u8_tri (a b : UInt8) : a < b ∨ a = b ∨ b < a := by
  rcases Nat.lt_trichotomy a.toNat b.toNat with h | h | h
  · exact .inl h
  · exact .inr (.inl (UInt8.toNat_inj.1 h))
  · exact .inr (.inr h)
theorem bl_irr : ∀ a : List UInt8, bl a a = false
  | [] => rfl
  | x :: a => by simp [bl, bytesLess, show bytesLess a a = false from bl_irr a]
theorem bl_c {x y : UInt8} {a b : List UInt8} : bl (x :: a) (y :: b) = true ↔ x < y ∨ (x = y ∧ bl a b = true) := by
  simp [bl, bytesLess]
theorem bl_tr : ∀ a b c : List UInt8, bl a b = true → bl b c = true → bl a c = true
  | _, [], _, h, _ => by simp [bl, bytesLess] at h
  | _, _ :: _, [], _, h => by simp [bl, bytesLess] at h
  | [], _ :: _, _ :: _, _, _ => rfl
  | x :: a, y :: b, z :: c, h1, h2 => by
    rw [bl_c] at h1 h2 ⊢
    rcases h1 with h1 | ⟨rfl, h1⟩
    · rcases h2 with h2 | ⟨rfl, h2⟩
      · exact .inl (UInt8.lt_trans h1 h2)
      · exact .inl h1
    · rcases h2 with h2 | ⟨rfl, h2⟩
      · exact .inl h2
      · exact .inr ⟨rfl, bl_tr a b c h1 h2⟩
theorem bl_tot : ∀ a b : List UInt8, bl a b = true ∨ a = b ∨ bl b a = true
  | [], [] => .inr (.inl rfl)
  | [], _ :: _ => .inl rfl
  | _ :: _, [] => .inr (.inr rfl)
  | x :: a, y :: b => by
    rw [bl_c, bl_c]
    rcases u8_tri x y with h | rfl | h
    · exact .inl (.inl h)
    · rcases bl_tot a b with h | rfl | h
      · exact .inl (.inr ⟨rfl, h⟩)
      · exact .inr (.inl rfl)
      · exact .inr (.inr (.inr ⟨rfl, h⟩))
    · exact .inr (.inr (.inl h))
theorem bl_wk (a b c : List UInt8) (h : bl a b = true) : bl a c = true ∨ bl c b = true := by
  rcases bl_tot a c with h1 | rfl | h1
  · exact .inl h1
  · exact .inr h
  · exact .inr (bl_tr _ _ _ h1 h)
theorem cmp_bl : ∀ a b : List UInt8, (Lib.compareBytes a b < 0 ↔ bl a b = true)
  | [], [] => by simp [Lib.compareBytes, bl, bytesLess]
  | [], _ :: _ => by simp [Lib.compareBytes, bl, bytesLess]
  | _ :: _, [] => by simp [Lib.compareBytes, bl, bytesLess]
  | x :: a, y :: b => by
    rw [bl_c, Lib.compareBytes]
    rcases u8_tri x y with h | rfl | h
    · simp [h]
    · have hx : ¬ x < x := UInt8.lt_irrefl x
      simp [hx, cmp_bl a b]
    · have h2 : ¬ x < y := fun h2 => UInt8.lt_irrefl x (UInt8.lt_trans h2 h)
      have h3 : x ≠ y := fun e => by subst e; exact h2 h
      simp [h, h2, h3]
end Go.Proofs.YtbemaloaobeblaaGreatDoor

namespace Go.Proofs.YtbemaloaobeblaaGreatDoor
open Go.RowKit

theorem mnL_all {f : T → Nat → Nat} {last : Nat} (hf : ∀ t k, 1 ≤ f t k) : ∀ (l : List T) (n : Nat), 1 ≤ n → mnL f last l n ≤ last → (∀ t ∈ l, ∃ k, k + 1 ≤ last ∧ f t k ≤ k) ∧ n + l.length ≤ last
  | [], n, _, h => ⟨by simp, h⟩
  | t :: r, n, hn, h => by
    unfold mnL at h
    split at h
    · rename_i hl
      have h1 := mnL_ge (f := f) (last := last) r (n + f t (last - n))
      have h2 := hf t (last - n)
      obtain ⟨h3, h4⟩ := mnL_all hf r _ (by omega) h
      refine ⟨fun u hu => ?_, by simp; omega⟩
      rcases List.mem_cons.1 hu with rfl | hu
      · exact ⟨last - n, by omega, by omega⟩
      · exact h3 u hu
    · omega
theorem hgt_mono : ∀ {n m : Nat} {t : T}, n ≤ m → hgt n t → hgt m t
  | 0, _, _, _, h => h.elim
  | n + 1, 0, _, hm, _ => absurd hm (by omega)
  | n + 1, m + 1, .mk _ _ _ l p, hm, h => ⟨h.1, h.2.1, fun t ht' => hgt_mono (by omega) (h.2.2.1 t ht'), fun q hq => hgt_mono (by omega) (h.2.2.2 q hq)⟩
theorem mny_hgt : ∀ {h last : Nat} {t : T}, ht h t → last ≤ 1000000 → mny h t last ≤ last → hgt last t
  | 0, _, _, hh, _, _ => hh.elim
  | h + 1, 0, t, _, _, hm => by
    have := mny_pos (h + 1) t 0
    omega
  | h + 1, m + 1, .mk k i s l p, hh, hl, hm => by
    unfold mny at hm
    have h1 := mnL_ge (f := mny h) (last := m + 1) (p.map (·.2)) (mnL (mny h) (m + 1) l 1)
    obtain ⟨a1, a2⟩ := mnL_all (mny_pos h) l 1 (Nat.le_refl _) (Nat.le_trans h1 hm)
    obtain ⟨c1, c2⟩ := mnL_all (mny_pos h) (p.map (·.2)) _ (mnL_ge l 1) hm
    rw [List.length_map] at c2
    refine ⟨by omega, by omega, fun t ht' => ?_, fun q hq => ?_⟩
    · obtain ⟨j, hj, hj2⟩ := a1 t ht'
      exact hgt_mono (by omega) (mny_hgt (hh.1 t ht') (by omega) hj2)
    · obtain ⟨j, hj, hj2⟩ := c1 q.2 (List.mem_map.2 ⟨q, hq, rfl⟩)
      exact hgt_mono (by omega) (mny_hgt (hh.2 q hq) (by omega) hj2)
end Go.Proofs.YtbemaloaobeblaaGreatDoor

namespace Go.Proofs.YtbemaloaobeblaaGreatDoor
open Go.ChangeShapes Go.WideShapes Go.ChangeAt Go.RowKit

section
variable {H : Type} {enc : TypeId × Value → H} {W : World} {held : Bool}
theorem five_l {α : Type} : ∀ {l : List α}, l.length = 5 → ∃ a b c d e, l = [a, b, c, d, e]
  | [a, b, c, d, e], _ => ⟨a, b, c, d, e, rfl⟩
theorem two_l {α : Type} : ∀ {l : List α}, l.length = 2 → ∃ a b, l = [a, b]
  | [a, b], _ => ⟨a, b, rfl⟩
theorem six_l {α : Type} : ∀ {l : List α}, l.length = 6 → ∃ a r, l = a :: r ∧ r.length = 5
  | a :: r, h => ⟨a, r, rfl, by simpa using h⟩
theorem row_in {e : TypeId} {z len cap : Nat} {a : Addr} (hz : 0 < z) {f : Nat → List Value} (h : ∀ i, i < len → (f i).length = z ∧ ∀ j, j < z → W.cell? (a.add (i * z + j)) = (f i)[j]?) :
    RwA (· < W.heap.size) W e z (.slice (some a) len cap) ((List.range len).map f) := by
  have hl : ∀ c ∈ (List.range len).map f, c.length = z := by
    intro c hc
    obtain ⟨i, hi, rfl⟩ := List.mem_map.1 hc
    exact (h i (List.mem_range.1 hi)).1
  refine ⟨hl, ?_⟩
  rcases Nat.eq_zero_or_pos len with rfl | hp
  · exact .inl ⟨some a, cap, rfl, rfl⟩
  right
  obtain ⟨b, o, spot⟩ := a
  have h0 := (h 0 hp).2 0 hz
  have hs0 : ∃ u, W.cell? ((⟨b, o, spot⟩ : Addr).add (0 * z + 0)) = some u := ⟨_, h0.trans (List.getElem?_eq_getElem (by have := (h 0 hp).1; omega))⟩
  obtain ⟨u0, hu0⟩ := hs0
  obtain rfl : spot = none := by simpa [Addr.add] using World.cell?_spot hu0
  have hcell : ∀ i, i < len → ∀ j, j < z → W.cell? ⟨b, o + (i * z + j), none⟩ = (f i)[j]? := fun i hi j hj => by
    have := (h i hi).2 j hj
    rwa [Addr.add_lit] at this
  cases hb : W.heap[b]? with
  | none => rw [Addr.add_lit] at hu0; simp [World.cell?, hb] at hu0
  | some ob =>
    cases ob with
    | cells cur t fz =>
      have hget : ∀ i, i < len → ∀ j, j < z → cur[o + (i * z + j)]? = (f i)[j]? := fun i hi j hj => by
        have := hcell i hi j hj
        simpa [World.cell?, hb] using this
      have hsz : ∀ k, k < len * z → ∃ v, cur[o + k]? = some v ∧ ((List.range len).map f).flatten[k]? = some v := fun k hk => by
        have hi : k / z < len := by rw [Nat.div_lt_iff_lt_mul hz]; exact hk
        have hj : k % z < z := Nat.mod_lt _ hz
        have hk' : k / z * z + k % z = k := by rw [Nat.mul_comm]; exact Nat.div_add_mod k z
        have h1 := hget _ hi _ hj
        have h2 := flat_get hl (k / z) (k % z) (f (k / z)) (by simp [hi]) hj
        rw [hk'] at h1 h2
        have h3 := (h _ hi).1
        have e := List.getElem?_eq_getElem (l := f (k / z)) (i := k % z) (by omega)
        rw [e] at h1 h2
        exact ⟨_, h1, h2⟩
      have hle : o + len * z ≤ cur.size := by
        have h1 : 0 < len * z := Nat.mul_pos hp hz
        obtain ⟨v, hv, _⟩ := hsz (len * z - 1) (by omega)
        have := (Array.getElem?_eq_some_iff.1 hv).1
        omega
      refine ⟨b, o, cap, cur, (t, fz), by simp, (Array.getElem?_eq_some_iff.1 hb).1, hb, by simpa using hle, ?_⟩
      apply List.ext_getElem?
      intro k
      simp only [List.length_map, List.length_range]
      by_cases hk : k < len * z
      · obtain ⟨v, h1, h2⟩ := hsz k hk
        rw [List.getElem?_take, if_pos hk, List.getElem?_drop, Array.getElem?_toList, h1, h2]
      · rw [List.getElem?_take, if_neg hk, List.getElem?_eq_none (by rw [flat_len hl]; simp; omega)]
    | _ => rw [Addr.add_lit] at hu0; simp [World.cell?, hb] at hu0
def sbd : Nat → T → Prop
  | 0, _ => True
  | n + 1, .mk _ _ s l p => s.length ≤ 9223372036854775807 ∧ (∀ t ∈ l, sbd n t) ∧ ∀ q ∈ p, q.1.length ≤ 9223372036854775807 ∧ sbd n q.2
end
end Go.Proofs.YtbemaloaobeblaaGreatDoor

namespace Go.Proofs.YtbemaloaobeblaaGreatDoor
open Go.Shelf
def lays196_ren : Go.Shelf.Ren := ⟨fun | 196 => 55 | 259 => 91 | n => n, fun | 9 => 9 | 4 => 4 | 3 => 3 | 5 => 5 | 12 => 12 | 119 => 99 | 0 => 0 | 46 => 103 | 139 => 102 | 138 => 101 | 53 => 125 | n => n, fun | 3 => 0 | 4 => 1 | n => n⟩
theorem lays196 : Go.Proofs.Lays.n196 Tryz.prog lays196_ren := {
  mixed := by kernel_rfl
  f196 := Tryz.func55.trans (congrArg some (by kernel_rfl))
  f259 := Tryz.func91.trans (congrArg some (by kernel_rfl))
  t0 := Tryz.underlying0
  a0 := Tryz.isAgg0
  z0 := Tryz.sizeOf0
  v0 := Tryz.zeroValue0
  t3 := Tryz.underlying3
  a3 := Tryz.isAgg3
  z3 := Tryz.sizeOf3
  v3 := Tryz.zeroValue3
  t4 := Tryz.underlying4
  a4 := Tryz.isAgg4
  z4 := Tryz.sizeOf4
  v4 := Tryz.zeroValue4
  t5 := Tryz.underlying5
  a5 := Tryz.isAgg5
  z5 := Tryz.sizeOf5
  v5 := Tryz.zeroValue5
  t9 := Tryz.underlying9
  a9 := Tryz.isAgg9
  z9 := Tryz.sizeOf9
  v9 := Tryz.zeroValue9
  t12 := Tryz.underlying12
  a12 := Tryz.isAgg12
  z12 := Tryz.sizeOf12
  v12 := Tryz.zeroValue12
  t46 := Tryz.underlying103
  a46 := Tryz.isAgg103
  z46 := Tryz.sizeOf103
  v46 := Tryz.zeroValue103
  t53 := Tryz.underlying125
  a53 := Tryz.isAgg125
  z53 := Tryz.sizeOf125
  v53 := Tryz.zeroValue125
  t119 := Tryz.underlying99
  a119 := Tryz.isAgg99
  z119 := Tryz.sizeOf99
  t138 := Tryz.underlying101
  a138 := Tryz.isAgg101
  z138 := Tryz.sizeOf101
  v138 := Tryz.zeroValue101
  t139 := Tryz.underlying102
  a139 := Tryz.isAgg102
  z139 := Tryz.sizeOf102
  v139 := Tryz.zeroValue102
  g3 := by kernel_rfl
  g4 := by kernel_rfl }
open Go.RowKit Go.Lib in
theorem utf8_ValidString (s : ByteArray) (w : World) (hs : s.size ≤ 9223372036854775807) (hT : Lib.Utf8Tabs 0 1 w) :
    Calls Tryz.prog 55 #[.string s] w fun e w' => e = .returned (.bool (Lib.validD s.data.toList)) ∧ Below w.heap.size w w' := Any.utf8_ValidString lays196 s w hs hT
def lays260_ren : Go.Shelf.Ren := ⟨fun | 260 => 143 | n => n, fun | 9 => 9 | 21 => 21 | 3 => 3 | 4 => 4 | 5 => 5 | 119 => 99 | 0 => 0 | 46 => 103 | 139 => 102 | 138 => 101 | n => n, fun | 3 => 0 | 4 => 1 | n => n⟩
theorem lays260 : Go.Proofs.Lays.n260 Tryz.prog lays260_ren := {
  mixed := by kernel_rfl
  f260 := Tryz.func143.trans (congrArg some (by kernel_rfl))
  t0 := Tryz.underlying0
  a0 := Tryz.isAgg0
  z0 := Tryz.sizeOf0
  v0 := Tryz.zeroValue0
  t3 := Tryz.underlying3
  a3 := Tryz.isAgg3
  z3 := Tryz.sizeOf3
  v3 := Tryz.zeroValue3
  t4 := Tryz.underlying4
  a4 := Tryz.isAgg4
  z4 := Tryz.sizeOf4
  v4 := Tryz.zeroValue4
  t5 := Tryz.underlying5
  a5 := Tryz.isAgg5
  z5 := Tryz.sizeOf5
  v5 := Tryz.zeroValue5
  t9 := Tryz.underlying9
  a9 := Tryz.isAgg9
  z9 := Tryz.sizeOf9
  v9 := Tryz.zeroValue9
  t21 := Tryz.underlying21
  a21 := Tryz.isAgg21
  z21 := Tryz.sizeOf21
  v21 := Tryz.zeroValue21
  t46 := Tryz.underlying103
  a46 := Tryz.isAgg103
  z46 := Tryz.sizeOf103
  v46 := Tryz.zeroValue103
  t119 := Tryz.underlying99
  a119 := Tryz.isAgg99
  z119 := Tryz.sizeOf99
  t138 := Tryz.underlying101
  a138 := Tryz.isAgg101
  z138 := Tryz.sizeOf101
  v138 := Tryz.zeroValue101
  t139 := Tryz.underlying102
  a139 := Tryz.isAgg102
  z139 := Tryz.sizeOf102
  v139 := Tryz.zeroValue102
  g3 := by kernel_rfl
  g4 := by kernel_rfl }
end Go.Proofs.YtbemaloaobeblaaGreatDoor

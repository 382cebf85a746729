/- JSp, JSq, JH, JI, JJ, JK, JL, JF2, JM, KA, KB1, CA4, CS1, CS2, JN, JO, JV, JSv, KC1, KC2, KC3: laid together. -/
import Derived.Deep.MidRow
import Derived.Handy
import Derived.Lib.SlBytesConst
import Derived.Lib.MapLaws
import Derived.Lib.AppendStr
import Derived.Lib.Bytealg
import Derived.WalkKit
import Derived.ProofKit
import Derived.OpenShut
import Derived.ChangeOld
import Derived.Below
import Derived.Deep.Slices
import Derived.Test.YtbemaloaobeblaaGreatDoorProg
import Derived.Shelf.Unicode.ValidAny
import Derived.Test.YtbemaloaobeblaaGreatDoorG2
import Derived.Test.YtbemaloaobeblaaGreatDoorG1
namespace Go.Proofs.YtbemaloaobeblaaGreatDoor
open Go.RowKit

theorem flat_len {z : Nat} {cs : List (List Value)} (h : ∀ c ∈ cs, c.length = z) : cs.flatten.length = cs.length * z := by
 rw [List.length_flatten, List.map_congr_left (g := fun _ => z) (fun c hc => h c hc), List.map_const', List.sum_replicate_nat]
theorem flat_set {z : Nat} : ∀ {cs : List (List Value)}, (∀ c ∈ cs, c.length = z) → ∀ (i : Nat) (x : List Value), i < cs.length → (cs.set i x).flatten = cs.flatten.take (i * z) ++ x ++ cs.flatten.drop (i * z + z)
 | [], _, i, x, h => by simp at h
 | c :: r, hl, 0, x, _ => by
  have hc := hl c (by simp)
  rw [List.set_cons_zero, List.flatten_cons, List.flatten_cons, Nat.zero_mul, List.take_zero, List.nil_append, Nat.zero_add, List.drop_left' hc]
 | c :: r, hl, i + 1, x, h => by
  have hc := hl c (by simp)
  have ih := flat_set (cs := r) (fun c hc => hl c (List.mem_cons_of_mem _ hc)) i x (by simpa using h)
  have t1 : (c ++ r.flatten).take (i * z + z) = c ++ r.flatten.take (i * z) := by
   rw [List.take_append, List.take_of_length_le (l := c) (by omega), hc, show i * z + z - z = i * z by omega]
  have t2 : (c ++ r.flatten).drop (i * z + z + z) = r.flatten.drop (i * z + z) := by
   rw [List.drop_append, List.drop_of_length_le (l := c) (by omega), hc, show i * z + z + z - z = i * z + z by omega, List.nil_append]
  rw [List.set_cons_succ, List.flatten_cons, List.flatten_cons, ih, Nat.succ_mul, t1, t2]
  simp only [List.append_assoc]
theorem flat_set1 {z : Nat} {cs : List (List Value)} (h : ∀ c ∈ cs, c.length = z + 1) {i : Nat} {u : Value} {c x : List Value} (hi : cs[i]? = some (u :: c)) : (cs.set i (u :: x)).flatten = cs.flatten.take (i * (z + 1) + 1) ++ x ++ cs.flatten.drop (i * (z + 1) + 1 + z) := by
 have hil := (List.getElem?_eq_some_iff.1 hi).1
 rw [flat_set h i _ hil]
 have hfl := flat_len h
 have hle : (i + 1) * (z + 1) ≤ cs.length * (z + 1) := Nat.mul_le_mul_right _ hil
 rw [Nat.succ_mul] at hle
 have h0 := flat_get h i 0 (u :: c) hi (by omega)
 have e : cs.flatten.take (i * (z + 1) + 1) = cs.flatten.take (i * (z + 1)) ++ [u] := by
  rw [List.take_add_one]
  rw [Nat.add_zero] at h0
  rw [h0]; rfl
 rw [e, show i * (z + 1) + 1 + z = i * (z + 1) + (z + 1) by omega]
 simp
theorem own_piece {w : World} {B gb n cap o m z : Nat} {e : TypeId} {xs : List Value} {c : Array Value} (h : w.ownsRow B e z (.slice (some ⟨gb, 0, none⟩) n cap) n xs) (hc : c.size = m) (ho : o + m ≤ n * z) {cur : Array Value} (hg : w.heap[gb]? = some (.cells cur e (0, 0))) :
  (w.setRow gb (cur.toList.take o ++ c.toList ++ cur.toList.drop (o + m)).toArray).ownsRow B e z (.slice (some ⟨gb, 0, none⟩) n cap) n (xs.take o ++ c.toList ++ xs.drop (o + m)) := by
 obtain ⟨hl, ⟨hv, _⟩ | ⟨g, cap', cur', hv, hB, hg', hcap, hm, hcs, htk⟩⟩ := h
 ·cases hv
 ·cases hv
  rw [hg] at hg'
  cases hg'
  have hcl : c.toList.length = m := by simpa using hc
  have hnz : n * z ≤ cur.size := by rw [hcs]; exact Nat.mul_le_mul_right z hcap
  have hcul : cur.toList.length = cur.size := by simp
  refine ⟨?_, .inr ⟨gb, cap, _, rfl, hB, setRow_heap w gb _ _ _ _ hg, hcap, hm, ?_, ?_⟩⟩
  ·simp only [List.length_append, List.length_take, List.length_drop, hl, hcl]; omega
  ·rw [List.size_toArray]
   simp only [List.length_append, List.length_take, List.length_drop, hcl, hcul]; omega
  ·show (cur.toList.take o ++ c.toList ++ cur.toList.drop (o + m)).take (n * z) = _
   have hl1 : (cur.toList.take o ++ c.toList).length = o + m := by simp only [List.length_append, List.length_take, hcl, hcul]; omega
   rw [List.take_append, List.take_of_length_le (by omega), hl1, ← htk, List.take_take, Nat.min_eq_left (by omega), List.drop_take]
theorem own_cur {w : World} {B gb n cap z : Nat} {e : TypeId} {xs : List Value} (h : w.ownsRow B e z (.slice (some ⟨gb, 0, none⟩) n cap) n xs) : ∃ cur, w.heap[gb]? = some (.cells cur e (0, 0)) ∧ n * z ≤ cur.size ∧ B ≤ gb := by
 obtain ⟨hl, ⟨hv, _⟩ | ⟨g, cap', cur', hv, hB, hg', hcap, hm, hcs, htk⟩⟩ := h
 ·cases hv
 ·cases hv
  exact ⟨cur', hg', by rw [hcs]; exact Nat.mul_le_mul_right z hcap, hB⟩
def hgt : Nat → T → Prop
 | 0, _ => False
 | n + 1, .mk _ _ _ l p => l.length ≤ 1000000 ∧ p.length ≤ 1000000 ∧ (∀ t ∈ l, hgt n t) ∧ ∀ q ∈ p, hgt n q.2
def AnC (w : World) (t : T) (e : Ending) (w' : World) : Prop := ∃ c : Array Value, e = .returned (.agg c) ∧ c.size = 5 ∧ Below w.heap.size w w' ∧ VA (w.heap.size ≤ ·) w' t c.toList
structure Cp {α : Type} (X : (Nat → Prop) → World → α → List Value → Prop) (EL : TypeId) (z B : Nat) (l : List α) (cs : List (List Value)) (v : Value) (i : Nat) (wr : World) (ds : List (List Value)) : Prop where
 row : wr.ownsRow B EL z v ds.length ds.flatten
 ln : ds.length = cs.length
 lz : ∀ c ∈ ds, c.length = z
 old : ∀ j, i ≤ j → ds[j]? = cs[j]?
 new : ∀ (j : Nat) (t : α) (c : List Value), j < i → l[j]? = some t → ds[j]? = some c → X (fun k => B ≤ k ∧ some k ≠ v.ownBlock) wr t c
section
variable {α : Type} {X : (Nat → Prop) → World → α → List Value → Prop} {EL : TypeId} {z B : Nat} {l : List α} {cs ds : List (List Value)} {v : Value} {i : Nat} {wr w' : World}
theorem Cp.start (h : wr.ownsRow B EL z v cs.length cs.flatten) (hz : ∀ c ∈ cs, c.length = z) : Cp X EL z B l cs v 0 wr cs := ⟨h, rfl, hz, fun _ _ => rfl, fun _ _ _ h => absurd h (by omega)⟩
theorem Cp.keep (hX : ∀ F w w' t c, X F w t c → (∀ k, F k → k < w.heap.size → w'.heap[k]? = w.heap[k]?) → X F w' t c) (h : Cp X EL z B l cs v i wr ds) (hk : ∀ k, B ≤ k → k < wr.heap.size → w'.heap[k]? = wr.heap[k]?) : Cp X EL z B l cs v i w' ds :=
 ⟨own_kept h.row fun b e => hk b (h.row.lt b e).1 (h.row.lt b e).2, h.ln, h.lz, h.old, fun j t c h1 h2 h3 => hX _ _ _ _ _ (h.new j t c h1 h2 h3) fun k hF hs => hk k hF.1 hs⟩
theorem Cp.step (hX : ∀ F w w' t c, X F w t c → (∀ k, F k → k < w.heap.size → w'.heap[k]? = w.heap[k]?) → X F w' t c) (h : Cp X EL z B l cs v i wr ds) {x : List Value} (hx : x.length = z) (hi : i < ds.length) {gb : Nat} (hv : v.ownBlock = some gb)
  (hk : ∀ k, k ≠ gb → w'.heap[k]? = wr.heap[k]?) (hrow : w'.ownsRow B EL z v ds.length (ds.set i x).flatten) (hn : ∀ t, l[i]? = some t → X (fun k => B ≤ k ∧ some k ≠ v.ownBlock) w' t x) : Cp X EL z B l cs v (i + 1) w' (ds.set i x) := by
 refine ⟨by rw [List.length_set]; exact hrow, by rw [List.length_set]; exact h.ln, fun c hc => ?_, fun j hj => ?_, fun j t c h1 h2 h3 => ?_⟩
 ·rcases List.mem_or_eq_of_mem_set hc with h1 | h1
  ·exact h.lz c h1
  ·rw [h1]; exact hx
 ·rw [List.getElem?_set_ne (by omega)]; exact h.old j (by omega)
 ·by_cases e : j = i
  ·subst e
   rw [List.getElem?_set_self hi] at h3
   cases h3
   exact hn t h2
  ·rw [List.getElem?_set_ne (fun e2 => e e2.symm)] at h3
   refine hX _ _ _ _ _ (h.new j t c (by omega) h2 h3) fun k hF _ => hk k (fun e2 => hF.2 (by rw [hv, e2]))
end
theorem VA.fr (F : Nat → Prop) (w w' : World) (t : T) (c : List Value) (h : VA F w t c) (hk : ∀ k, F k → k < w.heap.size → w'.heap[k]? = w.heap[k]?) : VA F w' t c := h.frame hk fun _ h _ => h
theorem PA.fr (F : Nat → Prop) (w w' : World) (t : List UInt8 × T) (c : List Value) (h : PA F w t c) (hk : ∀ k, F k → k < w.heap.size → w'.heap[k]? = w.heap[k]?) : PA F w' t c := ⟨h.1, h.2.frame hk fun _ h _ => h⟩
theorem own_rows {w : World} {B z : Nat} {e : TypeId} {v : Value} {cs : List (List Value)} (h : w.ownsRow B e z v cs.length cs.flatten) (hz : ∀ c ∈ cs, c.length = z) {F : Nat → Prop} (hF : ∀ k, B ≤ k → F k) : RwA F w e z v cs := by
 refine ⟨hz, ?_⟩
 obtain ⟨hl, ⟨h1, h2⟩ | ⟨g', cap, cur, h1, hB, hg, hcap, hm, hcs, htk⟩⟩ := h
 ·exact .inl ⟨none, 0, h1, List.length_eq_zero_iff.1 h2⟩
 ·refine .inr ⟨g', 0, cap, cur, (e, (0, 0)), h1, hF g' hB, hg, ?_, by simpa using htk⟩
  rw [hcs, Nat.zero_add]
  exact Nat.mul_le_mul_right z hcap
structure Cb (w : World) (c : Array Value) (wr : World) : Prop where
 bw : Below w.heap.size w wr
 b2 : wr.heap[w.heap.size]? = some (.cells c 28 (0, 0))
 b4 : wr.heap[w.heap.size + 1]? = some (.cells zV 28 (0, 0))
 sz : w.heap.size + 2 ≤ wr.heap.size
theorem Cb.keep {w wr w' : World} {c : Array Value} (h : Cb w c wr) (hb : Below wr.heap.size wr w') : Cb w c w' := by
 have hs := h.sz
 exact ⟨h.bw.trans (hb.mono h.bw.size), (hb.block _ (by omega)).trans h.b2, (hb.block _ (by omega)).trans h.b4, Nat.le_trans hs hb.size⟩
theorem Cb.over {w wr : World} {c : Array Value} (h : Cb w c wr) {b : Nat} (hb : w.heap.size + 2 ≤ b) (x : Array Value) : Cb w c (wr.setRow b x) := by
 refine ⟨blw_own h.bw (by omega) x, (setRow_other wr b _ x (by omega)).trans h.b2, (setRow_other wr b _ x (by omega)).trans h.b4, by simpa [World.setRow] using h.sz⟩
theorem results_v1 {fn : Func} {t : Tmp} (h : fn.results = #[.cell t Vt]) (tmps : Array Value) {w : World} {b : Nat} {c : Array Value} (ht : tmps.getD t undef = .pointer (some ⟨b, 0, none⟩)) (hs : c.size = 5) (hg : w.heap[b]? = some (.cells c Vt (0, 0))) :
  (results fn tmps).run Tryz.prog w = .ok (.agg c) w := by
 have hl := run_loadVar_row (P := Tryz.prog) w b Vt Vt c (0, 0) _ hg Tryz.underlying28 (by rfl) (by rw [hs]; kernel_rfl)
 have ht2 : tmps[t]?.getD undef = .pointer (some ⟨b, 0, none⟩) := by simpa using ht
 simp [results, h, ht2, asAddr, hl]
theorem sub_1 {d : Nat} (hd : 0 < d) (hb : d ≤ 65536) (w : World) : (binOp .sub 3 (.int .i64 (d : Nat)) (.int .i64 1)).run Tryz.prog w = .ok (.int .i64 (d - 1 : Nat)) w := by
 have e : ((d - 1 : Nat) : Int) = (d : Int) - 1 := by omega
 have hwr : IntKind.i64.wrap ((d : Int) - 1) = (d : Int) - 1 := by go_unwrap
 rw [e]
 simp [go_sem, hwr]
theorem eqg_sub {t : TypeId} {x u : Operand} {a b : Value} {w : World} : (eqGuard .sub t x u a b).run Tryz.prog w = .ok () w := rfl
def R7 (q2 gb nn vc i d : Nat) (C : Array Value) (w3 : World) (u : T) : Nat → Value → World → Prop
 | 0, v, _ => v = .pointer (some ⟨q2, 3, none⟩)
 | 1, v, _ => v = .slice (some ⟨gb, 0, none⟩) nn vc
 | 2, v, _ => v = .int .i64 (i : Nat)
 | 3, v, _ => v = .agg C
 | 4, v, _ => v = .int .i64 (d : Nat)
 | 5, v, _ => v = .int .i64 (d - 1 : Nat)
 | 6, v, w => ∃ c : Array Value, v = .agg c ∧ c.size = 5 ∧ VA (w3.heap.size ≤ ·) w u c.toList
 | 7, v, _ => v = .pointer (some ⟨gb, i * 5, none⟩)
 | _, _, _ => True
theorem R7_mono {q2 gb nn vc i d : Nat} {C : Array Value} {w3 : World} {u : T} (j : Nat) (v : Value) (w w' : World) (h : R7 q2 gb nn vc i d C w3 u j v w) (hb : Below w.heap.size w w') : R7 q2 gb nn vc i d C w3 u j v w' := by
 match j, h with
 | 0, h | 1, h | 2, h | 3, h | 4, h | 5, h | 7, h => exact h
 | 6, h =>
  obtain ⟨c, h1, h2, h3⟩ := h
  exact ⟨c, h1, h2, h3.frame (fun k _ hs => hb.block k hs) (fun _ h _ => h)⟩
 | _ + 8, h => trivial
def R13 (q2 q8 gb nn vc i d : Nat) (C : Array Value) (w3 : World) (u : T) : Nat → Value → World → Prop
 | 0, v, _ => v = .pointer (some ⟨q2, 4, none⟩)
 | 1, v, _ => v = .slice (some ⟨gb, 0, none⟩) nn vc
 | 2, v, _ => v = .int .i64 (i : Nat)
 | 3, v, _ => v = .pointer (some ⟨q8, 1, none⟩)
 | 4, v, _ => v = .agg C
 | 5, v, _ => v = .int .i64 (d : Nat)
 | 6, v, _ => v = .int .i64 (d - 1 : Nat)
 | 7, v, w => ∃ c : Array Value, v = .agg c ∧ c.size = 5 ∧ VA (w3.heap.size ≤ ·) w u c.toList
 | 8, v, _ => v = .pointer (some ⟨gb, i * 6, none⟩)
 | 9, v, _ => v = .pointer (some ⟨gb, i * 6 + 1, none⟩)
 | _, _, _ => True
theorem R13_mono {q2 q8 gb nn vc i d : Nat} {C : Array Value} {w3 : World} {u : T} (j : Nat) (v : Value) (w w' : World) (h : R13 q2 q8 gb nn vc i d C w3 u j v w) (hb : Below w.heap.size w w') : R13 q2 q8 gb nn vc i d C w3 u j v w' := by
 match j, h with
 | 0, h | 1, h | 2, h | 3, h | 4, h | 5, h | 6, h | 8, h | 9, h => exact h
 | 7, h =>
  obtain ⟨c, h1, h2, h3⟩ := h
  exact ⟨c, h1, h2, h3.frame (fun k _ hs => hb.block k hs) (fun _ h _ => h)⟩
 | _ + 10, h => trivial
theorem ld_v1 {w : World} {b : Nat} {y0 y1 y2 y3 y4 y5 : Value} (h : w.heap[b]? = some (.cells #[y0, y1, y2, y3, y4, y5] 49 (0, 0))) : (Instr.loadAt 28 (.pointer (some ⟨b, 1, none⟩))).run Tryz.prog w = .ok (.agg #[y1, y2, y3, y4, y5]) w := by
 have hr : w.rangeAt b 1 [y1, y2, y3, y4, y5] := fun j v hj => by
  simp only [World.cell?, h]
  match j, hj with
  | 0, hj | 1, hj | 2, hj | 3, hj | 4, hj => simpa using hj
  | _ + 5, hj => simp at hj
 have hl := run_loadVar_mid (P := Tryz.prog) w b 1 28 [y1, y2, y3, y4, y5] _ hr Tryz.underlying28 rfl (by kernel_rfl)
 simp only [Instr.loadAt, Instr.sureAddr, Sem.run_bind, Sem.run_pure, Result.andThen_ok, hl]
end Go.Proofs.YtbemaloaobeblaaGreatDoor

namespace Go.Proofs.YtbemaloaobeblaaGreatDoor
open Go.RowKit Go.Shelf
attribute [local go_sem] Oper.semAt_some

theorem wpListIn_ldm {F : Fence} {n : Nat} {ops : Array Oper} {rest : List Oper} {op : Oper} {a : Act} {w : World} {Q : Exit → Act → World → Prop} (hgd : op.guard = none) (ty : TypeId) (x : Operand) (ho : op.op = .load ty x)
  (b o : Nat) (hx : a.eval x = .pointer (some ⟨b, o, none⟩)) (cs : List Value) (d : TypeDesc) (hc : w.rangeAt b o cs) (hu : Tryz.prog.underlying ty = some d) (hd : d.isRow = true) (hi : (Tryz.prog.info? ty).map (·.size) = some cs.length)
  (h : wpListIn F n Tryz.prog ops Q rest (a.put op.dst (.agg cs.toArray)) w) : wpListIn F n Tryz.prog ops Q (op :: rest) a w := by
 refine wpListIn_plain hgd fun K hK => ?_
 unfold Oper.wpIn
 refine ⟨by simp [Oper.about, ho], ?_⟩
 rw [Oper.semAt_plain F _ _ (by rw [ho]; intro c hc'; cases hc')]
 unfold execOp
 simp only [ho, hx, Instr.loadAt, Instr.sureAddr, Sem.run_bind, Sem.run_pure, Result.andThen_ok, run_loadVar_mid w b o ty cs d hc hu hd hi]
 exact hK _ _ h
theorem wpListIn_str {F : Fence} {n : Nat} {ops : Array Oper} {rest : List Oper} {o : Oper} {a : Act} {w : World} {Q : Exit → Act → World → Prop} (hgd : o.guard = none) (ty : TypeId) (x y : Operand) (ho : o.op = .store ty x y)
  (g : Nat) (cells : Array Value) (hx : a.eval x = .pointer (some ⟨g, 0, none⟩)) (hy : a.eval y = .agg cells) (t : TypeId) (old : Array Value) (hg : w.heap[g]? = some (.cells old t (0, 0))) (hi : (Tryz.prog.info? ty).map (·.size) = some cells.size)
  (hold : old.size = cells.size) (h1 : cells.all (·.oneCell') = true) (h : wpListIn F n Tryz.prog ops Q rest (a.put o.dst undef) (w.setRow g cells)) : wpListIn F n Tryz.prog ops Q (o :: rest) a w := by
 refine wpListIn_plain hgd fun K hK => ?_
 unfold Oper.wpIn
 refine ⟨by simp [Oper.about, ho], ?_⟩
 rw [Oper.semAt_plain F _ _ (by rw [ho]; intro c hc'; cases hc')]
 unfold execOp
 simp only [ho, hx, hy, Instr.storeAt, Instr.sureAddr, Sem.run_bind, Sem.run_pure, Result.andThen_ok, run_storeVar_row w g t ty old cells hg hi hold h1]
 exact hK _ _ h
def hnd (c : List Value) : Value × Value := (c.headD undef, .agg c.tail.toArray)
theorem hnd_len (cp : List (List Value)) : (cp.map hnd).length = cp.length := by simp
set_option maxHeartbeats 400000 in
theorem pairs_d (c : Array Value) (w : World) : Calls Tryz.prog 43 #[.agg c] w fun e w' => e = .returned (.func (.func 77) #[] #[.pointer (some ⟨w.heap.size, 0, none⟩)]) ∧ w' = w.alloc (.cells c 28) := by
 go_enter Tryz.func43, Tryz.ntmps43
 go_wp2
 go_ret
 exact ⟨rfl, rfl⟩
set_option maxRecDepth 100000 in
set_option maxHeartbeats 4000000 in
theorem pairs_seq {F : Nat → Prop} {w0 w : World} {bx : Nat} {ki : Int} {s : Value} {sl sp : Value} {cp : List (List Value)} (hn : cp.length ≤ 1000000) (h : RwA F w0 49 6 sp cp) (hon : ∀ c ∈ cp, c.all (·.oneCell') = true) (hbw : Below w0.heap.size w0 w)
  (hbx : w.heap[bx]? = some (.cells #[.int .i64 5, .int .i64 ki, s, sl, sp] 28 (0, 0))) : SeqY 77 #[.pointer (some ⟨bx, 0, none⟩)] (cp.map hnd) (fun j => j < w0.heap.size ∨ j = bx) w := by
 intro l J Jx W hW hJ hJx hY h0
 have hxl := (Array.getElem?_eq_some_iff.1 hbx).1
 have hbW := (hW.block bx hxl).trans hbx
 have c0 : W.cell? ⟨bx, 0, none⟩ = some (.int .i64 5) := by simp only [World.cell?, hbW]; rfl
 have c4 : W.cell? ⟨bx, 4, none⟩ = some sp := by simp only [World.cell?, hbW]; rfl
 have hB0 : Below w0.heap.size w0 W := hbw.trans (hW.mono hbw.size)
 obtain ⟨va, vc, rfl⟩ : ∃ va vc, sp = .slice va cp.length vc := by
  obtain ⟨_, ⟨a, cap, h1, h2⟩ | ⟨b, o, cap, cur, fz, h1, _⟩⟩ := h
  ·exact ⟨a, cap, by rw [h1, h2]; rfl⟩
  ·exact ⟨_, cap, h1⟩
 rw [hnd_len] at *
 have hXK : Kx W.heap.size (fun j => j < w0.heap.size ∨ j = bx) W W := Kx.refl _ _ _
 replace h := hide1 h
 replace hB0 := hide1 hB0
 replace hY := hide1 hY
 replace hbW := hide1 hbW
 replace hJ := hide1 hJ
 replace hon := hide1 hon
 show CallsIn Fence.wide 4 Tryz.prog 77 #[.func (.yield l) #[] #[], .pointer (some ⟨bx, 0, none⟩)] W _
 refine callsIn_of_wp Tryz.func77 rfl trivial ?_ rfl
 simp only [Tryz.ntmps77, List.size_toArray, List.length_cons, List.length_nil, Nat.reduceAdd, Nat.reduceSub, Array.replicate_succ, Array.replicate_zero, List.push_toArray, List.append_toArray, List.nil_append, List.cons_append]
 clear hbx
 gi_wp2
 gi_loopw [11] (fun x wr => ∃ k : Nat, x = .int .i64 (k : Nat) ∧ k ≤ cp.length ∧ J k wr ∧ Hid (Kx W.heap.size (fun j => j < w0.heap.size ∨ j = bx) W wr)) (fun x _ => cp.length - (intOf x).toNat)
 case atStart => exact ⟨0, rfl, by omega, h0, hide1 hXK⟩
 case round =>
  obtain ⟨k, rfl, hkn, hJk, hK⟩ := hrel
  by_cases hlt : k < cp.length
  ·obtain ⟨x, hx⟩ : ∃ x, cp[k]? = some x := ⟨_, List.getElem?_eq_getElem hlt⟩
   have hx6 := h.out.1 x (List.mem_of_getElem? hx)
   have hox := hon.out x (List.mem_of_getElem? hx)
   obtain ⟨b, o, cap, hve, -, hbl, hr⟩ := h.out.at hx
   have hva : va = some ⟨b, o, none⟩ := by cases hve; rfl
   subst hva
   have hy := hY.out k (by simpa using hlt)
   have hit : (cp.map hnd)[k]'(by simpa using hlt) = hnd x := by
    rw [List.getElem_map]
    congr 1
    have := List.getElem?_eq_getElem hlt
    rw [hx] at this
    exact (Option.some.inj this).symm
   rw [hit] at hy
   obtain ⟨x0, x1, x2, x3, x4, x5, rfl⟩ := arr6 hx6
   have hblk : wr.heap[b]? = w0.heap[b]? := by
    have h1 := hB0.out.block b hbl
    obtain ⟨ob, hob⟩ : ∃ ob, w0.heap[b]? = some ob := ⟨_, Array.getElem?_eq_getElem hbl⟩
    rw [hob] at h1 ⊢
    exact hK.out.same b ob h1 (.inr (.inl hbl))
   have hr2 : wr.rangeAt b (o + k * 6) [x0, x1, x2, x3, x4, x5] := fun j u hj => by
    rw [World.cell?_of_block (w := w0) hblk]
    exact hr j u hj
   have hr6 : (wr.alloc (.cells #[.string ⟨#[]⟩, .int .i64 0, .int .i64 0, .string ⟨#[]⟩, .slice none 0 0, .slice none 0 0] 49)).heap[wr.heap.size]? = some (.cells #[.string ⟨#[]⟩, .int .i64 0, .int .i64 0, .string ⟨#[]⟩, .slice none 0 0, .slice none 0 0] 49 (0, 0)) := by
    show (wr.heap.push _)[wr.heap.size]? = _
    rw [Array.getElem?_push, if_pos rfl]
   have h6 := setRow_heap (wr.alloc (.cells #[.string ⟨#[]⟩, .int .i64 0, .int .i64 0, .string ⟨#[]⟩, .slice none 0 0, .slice none 0 0] 49)) wr.heap.size _ #[x0, x1, x2, x3, x4, x5] _ _ hr6
   have hal : ∀ k, k < wr.heap.size → ((wr.alloc (.cells #[.string ⟨#[]⟩, .int .i64 0, .int .i64 0, .string ⟨#[]⟩, .slice none 0 0, .slice none 0 0] 49)).setRow wr.heap.size #[x0, x1, x2, x3, x4, x5]).heap[k]? = wr.heap[k]? := fun k hk => (setRow_other _ _ k _ (by omega)).trans (by
    show (wr.heap.push _)[k]? = _
    rw [Array.getElem?_push, if_neg (by omega)])
   have hb4 : Below wr.heap.size wr ((wr.alloc (.cells #[.string ⟨#[]⟩, .int .i64 0, .int .i64 0, .string ⟨#[]⟩, .slice none 0 0, .slice none 0 0] 49)).setRow wr.heap.size #[x0, x1, x2, x3, x4, x5]) := ⟨rfl, rfl, rfl, by simp [World.setRow], hal⟩
   have hJ4 : J k ((wr.alloc (.cells #[.string ⟨#[]⟩, .int .i64 0, .int .i64 0, .string ⟨#[]⟩, .slice none 0 0, .slice none 0 0] 49)).setRow wr.heap.size #[x0, x1, x2, x3, x4, x5]) := hJ.out k wr _ none hJk ⟨hb4.os, hb4.tape, hb4.output, hb4.size, fun j hj _ => hb4.block j hj⟩ (fun _ e => by cases e)
   have hK4 : Hid (Kx W.heap.size (fun j => j < w0.heap.size ∨ j = bx) W ((wr.alloc (.cells #[.string ⟨#[]⟩, .int .i64 0, .int .i64 0, .string ⟨#[]⟩, .slice none 0 0, .slice none 0 0] 49)).setRow wr.heap.size #[x0, x1, x2, x3, x4, x5])) := hide1 (hK.out.trans (Kx.below hb4))
   have l0 : ((wr.alloc (.cells #[.string ⟨#[]⟩, .int .i64 0, .int .i64 0, .string ⟨#[]⟩, .slice none 0 0, .slice none 0 0] 49)).setRow wr.heap.size #[x0, x1, x2, x3, x4, x5]).cell? ⟨wr.heap.size, 0, none⟩ = some x0 := by simp only [World.cell?, h6]; rfl
   have l1 : ((wr.alloc (.cells #[.string ⟨#[]⟩, .int .i64 0, .int .i64 0, .string ⟨#[]⟩, .slice none 0 0, .slice none 0 0] 49)).setRow wr.heap.size #[x0, x1, x2, x3, x4, x5]).cell? ⟨wr.heap.size, 1, none⟩ = some x1 := by simp only [World.cell?, h6]; rfl
   have l2 : ((wr.alloc (.cells #[.string ⟨#[]⟩, .int .i64 0, .int .i64 0, .string ⟨#[]⟩, .slice none 0 0, .slice none 0 0] 49)).setRow wr.heap.size #[x0, x1, x2, x3, x4, x5]).cell? ⟨wr.heap.size, 2, none⟩ = some x2 := by simp only [World.cell?, h6]; rfl
   have l3 : ((wr.alloc (.cells #[.string ⟨#[]⟩, .int .i64 0, .int .i64 0, .string ⟨#[]⟩, .slice none 0 0, .slice none 0 0] 49)).setRow wr.heap.size #[x0, x1, x2, x3, x4, x5]).cell? ⟨wr.heap.size, 3, none⟩ = some x3 := by simp only [World.cell?, h6]; rfl
   have l4 : ((wr.alloc (.cells #[.string ⟨#[]⟩, .int .i64 0, .int .i64 0, .string ⟨#[]⟩, .slice none 0 0, .slice none 0 0] 49)).setRow wr.heap.size #[x0, x1, x2, x3, x4, x5]).cell? ⟨wr.heap.size, 4, none⟩ = some x4 := by simp only [World.cell?, h6]; rfl
   have l5 : ((wr.alloc (.cells #[.string ⟨#[]⟩, .int .i64 0, .int .i64 0, .string ⟨#[]⟩, .slice none 0 0, .slice none 0 0] 49)).setRow wr.heap.size #[x0, x1, x2, x3, x4, x5]).cell? ⟨wr.heap.size, 5, none⟩ = some x5 := by simp only [World.cell?, h6]; rfl
   have hyy := hy _ hJ4
   replace hox := hide1 hox
   replace h6 := hide1 h6
   obtain ⟨fn, tmps, assign, body, hyr, hR⟩ := hyy
   simp only [hnd, List.headD_cons, List.tail_cons] at hyr
   clear hb4 hJ4 hJk hK hr hve hx hit hy hal hblk hx6
   gi_wp2_with (first | refine wpListIn_ldm rfl 49 (.tmp 13) rfl b (o + k * 6) rfl [x0, x1, x2, x3, x4, x5] _ hr2 Tryz.underlying49 rfl (by kernel_rfl) ?_ | refine wpListIn_str rfl 49 (.tmp 4) (.tmp 14) rfl wr.heap.size #[x0, x1, x2, x3, x4, x5] rfl rfl 49 _ hr6 (by kernel_rfl) rfl (by simpa using hox.out) ?_)
   refine hR.mono ?_
   rintro e' W5 (⟨rfl, hJ5, hk5⟩ | ⟨rfl, hJx5, hk5⟩)
   ·have hK5 := hide1 (hK4.out.trans hk5)
    clear hk5
    gi_wp2
    go_roundw
    case rel => exact ⟨k + 1, rfl, by omega, hJ5, hK5⟩
    case measure => simp [intOf]; omega
   ·gi_wp2
    exact bodyPost_ret (results_none rfl _ _ _) rfl ⟨⟨_, rfl⟩, .inr ⟨k, hlt, hJx5⟩⟩
  ·have hke : k = cp.length := by omega
   subst hke
   gi_wp2
   exact bodyPost_end (results_none rfl _ _ _) rfl ⟨⟨_, rfl⟩, .inl hJk⟩
attribute [local go_sem] Oper.semAt_some

def getP (k : Int) (p : List (List UInt8 × T)) (n : List UInt8) : Option T := if k = 5 then (p.find? (fun q => q.1 == n)).map (·.2) else none
theorem blw_done {w W : World} {D : Nat} {o o' : Obj} (h : Below w.heap.size w W) (hD : w.heap.size ≤ D) (ho : W.heap[D]? = some o) : Below w.heap.size w (W.putObj D o') :=
 h.trans ((Below.refl _ W).grown (grownBy_putObj' W D o') (by have := (Array.getElem?_eq_some_iff.1 ho).1; omega) (fun k e => by cases e; exact hD))
theorem Kx.row {h b : Nat} {P : Nat → Prop} {W0 W : World} (x : Kx h P W0 W) (c : Array Value) (hb : b < h) (hP : ¬ P b) : Kx h P W0 (W.setRow b c) := ⟨by simpa [World.setRow] using x.size, fun j ob h1 h2 => (setRow_other W b j c (by rintro rfl; rcases h2 with h2 | h2 <;> first | omega | exact hP h2)).trans (x.same j ob h1 h2)⟩
theorem bsa_new {w : World} {C : Array Value} {l : List UInt8} (h : C.toList = l.map fun x => .int .u8 (x.toNat : Nat)) (n : Nat) (hn : l.length = n) (fz : Nat × Nat) : BsA (w.alloc (.cells C 5 fz)) (.slice (some ⟨w.heap.size, 0, none⟩) n n) l := by
 subst hn
 refine ⟨_, l.length, rfl, .inr ⟨w.heap.size, 0, rfl, by simp, fun j x hj => ?_⟩⟩
 have hb : (w.alloc (.cells C 5 fz)).heap[w.heap.size]? = some (.cells C 5 fz) := by
  show (w.heap.push _)[w.heap.size]? = _
  rw [Array.getElem?_push, if_pos rfl]
 simp only [World.cell?, hb]
 show C[0 + j]? = _
 rw [Nat.zero_add, ← Array.getElem?_toList, h, List.getElem?_map, hj]; rfl
end Go.Proofs.YtbemaloaobeblaaGreatDoor

namespace Go.Proofs.YtbemaloaobeblaaGreatDoor
open Go.RowKit

def ht : Nat → T → Prop
 | 0, _ => False
 | n + 1, .mk _ _ _ l p => (∀ t ∈ l, ht n t) ∧ ∀ q ∈ p, ht n q.2
section
variable {P : Program} {Q : Exit → Act → World → Prop}
def rch (l : List Oper) : Nat → Nat → Nat → Bool
 | 0, _, _ => false
 | k + 1, j, i => match l[j]? with
  | some o => o.after.any fun e => Region.binds .any e && (e.on == i || rch l k e.on i)
  | none => false
theorem rch_of {l : List Oper} {D : Nat → Bool} (hcl : ∀ j oj, l[j]? = some oj → D j = true → ∀ e ∈ oj.after, Region.binds .any e = true → D e.on = true) : ∀ (k j i : Nat), rch l k j i = true → D j = true → D i = true
 | 0, _, _, h, _ => by cases h
 | k + 1, j, i, h, hD => by
  unfold rch at h
  cases hj : l[j]? with
  | none => rw [hj] at h; cases h
  | some o =>
   rw [hj] at h
   obtain ⟨e, he, h1⟩ := Array.any_eq_true'.1 h
   simp only [Bool.and_eq_true, Bool.or_eq_true, beq_iff_eq] at h1
   have hDe := hcl j o hj hD e he h1.1
   rcases h1.2 with h2 | h2
   ·rw [← h2]; exact hDe
   ·exact rch_of hcl k e.on i h2 hDe
def finC (l : List Oper) (fin n : Nat) : Bool := (List.range l.length).all fun i => i == fin || (rch l l.length fin i && (match (l[i]?).bind (·.dst) with
  | some d => decide (d < n) && (List.range l.length).all fun j => j == i || ((l[j]?).bind (·.dst)) != some d
  | none => false))
theorem finC_at {l : List Oper} {fin n : Nat} (h : finC l fin n = true) {i : Nat} {o : Oper} (ho : l[i]? = some o) (hi : i ≠ fin) :
  rch l l.length fin i = true ∧ ∃ d, o.dst = some d ∧ d < n ∧ ∀ j oj, l[j]? = some oj → j ≠ i → oj.dst ≠ some d := by
 have hil := (List.getElem?_eq_some_iff.1 ho).1
 have h1 := List.all_eq_true.1 h i (by simp [hil])
 simp only [ho, Option.bind_some, Bool.or_eq_true, beq_iff_eq, hi, false_or, Bool.and_eq_true] at h1
 refine ⟨h1.1, ?_⟩
 have h3 := h1.2
 cases hd : o.dst with
 | none => rw [hd] at h3; cases h3
 | some d =>
  rw [hd] at h3
  simp only [Bool.and_eq_true, decide_eq_true_eq] at h3
  refine ⟨d, rfl, h3.1, fun j oj hj hne e => ?_⟩
  have h5 := List.all_eq_true.1 h3.2 j (by simp [(List.getElem?_eq_some_iff.1 hj).1])
  simp [hj, hne, e] at h5
def OpG (P : Program) (l : List Oper) (Q : Exit → Act → World → Prop) (o : Oper) (a : Act) (w : World) (K : Act → World → Prop) : Prop :=
 (Region.wanted o (yielded l.toArray a.tmps) = true ∧ o.wp P a w K Q) ∨ (Region.wanted o (yielded l.toArray a.tmps) = false ∧ K (a.put o.dst undef) w)
theorem OpG.plain {l : List Oper} {o : Oper} {a : Act} {w : World} {K : Act → World → Prop} (hg : o.guard = none) (h : o.wp P a w K Q) : OpG P l Q o a w K := .inl ⟨by unfold Region.wanted; rw [hg], h⟩
theorem OpG.want {l : List Oper} {o : Oper} {a : Act} {w : World} {K : Act → World → Prop} {j d : Nat} {b : Bool} (hg : o.guard = some (j, b)) (hd : (l[j]?).bind (·.dst) = some d) (hs : d < a.tmps.size) (hv : a.tmps.getD d undef = .bool b) (h : o.wp P a w K Q) : OpG P l Q o a w K := by
 refine .inl ⟨?_, h⟩
 have ht : a.tmps[d]? = some (.bool b) := by
  rw [Array.getElem?_eq_getElem hs]
  simpa [Array.getD, hs] using hv
 unfold Region.wanted yielded
 rw [hg]
 simp [hd, ht]
theorem OpG.skip {l : List Oper} {o : Oper} {a : Act} {w : World} {K : Act → World → Prop} {j d : Nat} {b : Bool} (hg : o.guard = some (j, b)) (hd : (l[j]?).bind (·.dst) = some d) (hs : d < a.tmps.size) (hv : a.tmps.getD d undef = .bool (!b)) (h : K (a.put o.dst undef) w) : OpG P l Q o a w K := by
 refine .inr ⟨?_, h⟩
 have ht : a.tmps[d]? = some (.bool (!b)) := by
  rw [Array.getElem?_eq_getElem hs]
  simpa [Array.getD, hs] using hv
 unfold Region.wanted yielded
 rw [hg]
 cases b <;> simp [hd, ht]
theorem wp_flowG {l : List Oper} {id : Nat} (fin : Nat) (a0 : Act) (w0 : World) (hm : P.follows .mixedOrders = true) (hac : acycB l.toArray = true) (hfin : finC l fin a0.tmps.size = true) {f : Oper} (hf : l[fin]? = some f)
  (Rr : Nat → Value → World → Prop) (hmono : ∀ i v w w', Rr i v w → Below w.heap.size w w' → Rr i v w')
  (hop : ∀ i o, l[i]? = some o → i ≠ fin → ∀ a w, Below w0.heap.size w0 w → a.tmps.size = a0.tmps.size → (∀ t, wrB l t = false → a.tmps.getD t undef = a0.tmps.getD t undef) → (∀ j oj d, l[j]? = some oj → oj.dst = some d → (∃ e ∈ o.after, Region.binds .any e = true ∧ e.on = j) → Rr j (a.tmps.getD d undef) w) →
   ∀ K : Act → World → Prop, (∀ v w', Below w.heap.size w w' → Rr i v w' → K (a.put o.dst v) w') → OpG P l Q o a w K)
  (hlast : ∀ a w, Below w0.heap.size w0 w → a.defers = a0.defers → a.tmps.size = a0.tmps.size → (∀ t, wrB l t = false → a.tmps.getD t undef = a0.tmps.getD t undef) → (∀ j oj d, l[j]? = some oj → j ≠ fin → oj.dst = some d → Rr j (a.tmps.getD d undef) w) →
   ∀ K : Act → World → Prop, (∀ a' w', Q .normal a' w' → K a' w') → OpG P l Q f a w K) : (Code.region id l.toArray true).wp P Q a0 w0 := by
 have hacyc := acyc_of (ops := l.toArray) hac
 refine wp_region_any hm (wpAny_sym hacyc (fun D a w => ((∀ j, j < l.length → D j = true) ∧ Q .normal a w) ∨ (D fin = false ∧ a.defers = a0.defers ∧ a.tmps.size = a0.tmps.size ∧ Below w0.heap.size w0 w ∧ (∀ t, wrB l t = false → a.tmps.getD t undef = a0.tmps.getD t undef) ∧ (∀ j oj, l[j]? = some oj → D j = true → ∀ e ∈ oj.after, Region.binds .any e = true → D e.on = true) ∧ ∀ j oj d, l[j]? = some oj → D j = true → oj.dst = some d → Rr j (a.tmps.getD d undef) w)) ?_ ?_ _ _ _ _ (by simp) ?_ ?_)
 ·intro D a w hI i o ho hD hdep K hK
  have ho : l[i]? = some o := by simpa using ho
  rcases hI with ⟨h1, _⟩ | ⟨h1, hdf, hsz, hb, hsl, hcl, hr⟩
  ·rw [h1 i (List.getElem?_eq_some_iff.1 ho).1] at hD; cases hD
  ·by_cases hi : i = fin
   ·subst hi
    rw [hf] at ho
    cases ho
    have hall : ∀ j, j < l.length → j ≠ i → D j = true := fun j hj hne => by
     obtain ⟨h3, _⟩ := finC_at hfin (List.getElem?_eq_getElem hj) hne
     cases hk : l.length with
     | zero => omega
     | succ k =>
      rw [hk] at h3
      unfold rch at h3
      rw [hf] at h3
      obtain ⟨e, he, h4⟩ := Array.any_eq_true'.1 h3
      simp only [Bool.and_eq_true, Bool.or_eq_true, beq_iff_eq] at h4
      rcases h4.2 with h5 | h5
      ·rw [← h5]; exact hdep e he h4.1
      ·exact rch_of hcl k e.on j h5 (hdep e he h4.1)
    refine hlast a w hb hdf hsz hsl (fun j oj d hj hne hd => hr j oj d hj (hall j (List.getElem?_eq_some_iff.1 hj).1 hne) hd) K (fun a' w' hq => hK a' w' (.inl ⟨fun j hj => ?_, hq⟩))
    by_cases hji : j = i
    ·rw [hji]; exact add1_eq
    ·rw [add1_ne hji]; exact hall j hj hji
   ·obtain ⟨_, d, hd, hdn, hap⟩ := finC_at hfin ho hi
    have hds : d < a.tmps.size := by rw [hsz]; exact hdn
    refine hop i o ho hi a w hb hsz hsl (fun j oj d' hj hd' ⟨e, he, h3, h4⟩ => hr j oj d' hj (by rw [← h4]; exact hdep e he h3) hd') K (fun v w' hb' hR => hK _ _ (.inr ⟨?_, ?_, ?_, ?_, ?_, ?_, ?_⟩))
    ·rw [add1_ne (fun e => hi e.symm)]; exact h1
    ·rw [put_df]; exact hdf
    ·rw [put_sz]; exact hsz
    ·exact hb.trans (hb'.mono hb.size)
    ·intro t ht
     rw [hd, put_of hds (fun e => by
      subst e
      have : wrB l t = true := List.any_eq_true.2 ⟨o, List.mem_of_getElem? ho, by simp [hd]⟩
      rw [this] at ht; cases ht)]
     exact hsl t ht
    ·intro j oj hj hDj e he h3
     by_cases hji : j = i
     ·subst hji
      rw [ho] at hj
      cases hj
      exact add1_mono (hdep e he h3)
     ·rw [add1_ne hji] at hDj
      exact add1_mono (hcl j oj hj hDj e he h3)
    ·intro j oj d' hj hDj hd'
     by_cases hji : j = i
     ·subst hji
      rw [ho] at hj
      cases hj
      rw [hd] at hd'
      cases hd'
      rw [hd, put_at hds]
      exact hR
     ·rw [add1_ne hji] at hDj
      rw [hd, put_of hds (fun e => hap j oj hj hji (by rw [hd', e]))]
      exact hmono _ _ _ _ (hr j oj d' hj hDj hd') hb'
 ·intro D a w hI hall
  rcases hI with ⟨_, h⟩ | ⟨h1, _⟩
  ·exact h
  ·rw [hall fin (by simpa using (List.getElem?_eq_some_iff.1 hf).1)] at h1; cases h1
 ·exact Nat.le_trans (List.length_filter_le _ _) (by simp)
 ·have e : (fun i => (Array.replicate l.toArray.size false).getD i false) = fun _ => false := by
   funext i
   by_cases h : i < l.toArray.size <;> simp [Array.getD]
  rw [e]
  exact .inr ⟨rfl, rfl, rfl, (Below.refl _ _).drew, fun _ _ => rfl, (fun _ _ _ h => absurd h (by simp)), (fun _ _ _ _ h => absurd h (by simp))⟩
end
theorem ld_mV {w : World} {b o : Nat} {x0 x1 x2 x3 x4 : Value} (hr : w.rangeAt b o [x0, x1, x2, x3, x4]) : (Instr.loadAt 28 (.pointer (some ⟨b, o, none⟩))).run Tryz.prog w = .ok (.agg #[x0, x1, x2, x3, x4]) w := by
 have hl := run_loadVar_mid (P := Tryz.prog) w b o 28 [x0, x1, x2, x3, x4] _ hr Tryz.underlying28 rfl (by kernel_rfl)
 simp only [Instr.loadAt, Instr.sureAddr, Sem.run_bind, Sem.run_pure, Result.andThen_ok, hl]
theorem ld_s0 {w : World} {b o : Nat} {v : Value} (h1 : w.cell? ⟨b, o, none⟩ = some v) : (Instr.loadAt 9 (.pointer (some ⟨b, o, none⟩))).run Tryz.prog w = .ok v w := by
 simp [Instr.loadAt, Instr.sureAddr, go_sem, h1]
theorem nq_s {s s' : List UInt8} (w : World) : (binOp .neq 9 (.string (st s)) (.string (st s'))).run Tryz.prog w = .ok (.bool (!decide (s = s'))) w := by
 have h := st_eq s s'
 simp [binOp, go_sem, Op.stringOp, ← h]
theorem eg_s {a b : Operand} {s s' : List UInt8} (w : World) : (eqGuard .neq 9 a b (.string (st s)) (.string (st s'))).run Tryz.prog w = .ok () w := by
 simp [eqGuard, go_sem]
def nd (l : List UInt8) : Prop := ∀ b m, l = b :: m → dg b = false
theorem hp1 {b : UInt8} {l : List UInt8} (h : hp [b] l = true) : ∃ m, l = b :: m := by
 cases l with
 | nil => simp [hp] at h
 | cons c m => simp [hp] at h; exact ⟨m, by rw [h]⟩
theorem hpw {p l : List UInt8} (h : hp p l = true) : l = p ++ tk p l := by
 unfold hp at h
 unfold tk
 rw [if_pos h]
 obtain ⟨t, rfl⟩ := List.isPrefixOf_iff_prefix.1 h
 simp
theorem dec_go {b : UInt8} (t : List UInt8) : Lib.decodeGo (st (b :: t)) = Lib.decodeL (b :: t) := by
 unfold Lib.decodeGo
 rw [if_neg (by rw [st_size]; simp)]
 rfl
theorem dec_sw {l : List UInt8} (hne : l ≠ []) (hv : ¬ ((Lib.decodeL l).1 = 65533 ∧ (Lib.decodeL l).2 = 1)) : ∃ q, l = q ++ l.drop (Lib.decodeL l).2 ∧ q ≠ [] ∧ q.length = (Lib.decodeL l).2 ∧ ∀ r', Lib.decodeL (q ++ r') = Lib.decodeL l := by
 have hw1 := Lib.decodeL_width l
 have hw2 := Lib.decodeL_le l hne
 refine ⟨l.take (Lib.decodeL l).2, (List.take_append_drop _ _).symm, ?_, by simp; omega, ?_⟩
 ·intro h
  have := congrArg List.length h
  rw [List.length_take, List.length_nil] at this
  omega
 ·intro r'
  rw [Lib.decodeL_N] at hv ⊢
  rw [Lib.decodeL_N]
  rcases Lib.decodeN_shape l.length (l.getD 0 0).toNat (l.getD 1 0).toNat (l.getD 2 0).toNat (l.getD 3 0).toNat with ⟨c, e⟩ | ⟨c1, c2, c3, cv, e⟩ | ⟨c1, c2, c3, c4, cv, cs, e⟩ | ⟨c1, c2, c3, c4, c5, cv, cw, e⟩ | e
  ·have hl : 0 < l.length := List.length_pos_iff.2 hne
   rw [e]
   simp only
   rw [Lib.takeA l hl]
   unfold Lib.decodeN
   rw [if_pos (by simpa using c)]
   rfl
  ·rw [e]
   simp only
   rw [Lib.takeB l c2]
   simp only [List.cons_append, List.nil_append, List.length_cons, List.getD_cons_zero, List.getD_cons_succ]
   unfold Lib.decodeN
   rw [if_neg (by omega), if_pos ⟨c1, by omega, c3⟩, if_pos cv]
  ·rw [e]
   simp only
   rw [Lib.takeC l c2]
   simp only [List.cons_append, List.nil_append, List.length_cons, List.getD_cons_zero, List.getD_cons_succ]
   unfold Lib.decodeN
   rw [if_neg (by omega), if_neg (by omega), if_pos ⟨c1, ⟨by omega, c3⟩, by omega, c4⟩, if_pos ⟨cv, by omega⟩]
  ·rw [e]
   simp only
   rw [Lib.takeD l c2]
   simp only [List.cons_append, List.nil_append, List.length_cons, List.getD_cons_zero, List.getD_cons_succ]
   unfold Lib.decodeN
   rw [if_neg (by omega), if_neg (by omega), if_neg (by omega), if_pos ⟨c1, ⟨by omega, c3⟩, ⟨by omega, c4⟩, by omega, c5⟩, if_pos ⟨cv, by omega⟩]
  ·rw [e] at hv
   exact absurd ⟨rfl, rfl⟩ hv
section
variable {α : Type} {one : List UInt8 → Option (α × List UInt8)} {e : UInt8}
end
end Go.Proofs.YtbemaloaobeblaaGreatDoor

namespace Go.Proofs.YtbemaloaobeblaaGreatDoor
open Go.RowKit Go.Shelf

def bv (l : List UInt8) : List Value := l.map fun x => Value.int .u8 (x.toNat : Nat)
theorem bv_app (a b : List UInt8) : bv (a ++ b) = bv a ++ bv b := by simp [bv]
theorem bv_len (l : List UInt8) : (bv l).length = l.length := by simp [bv]
abbrev Ow (w : World) (B : Nat) (v : Value) (l : List UInt8) : Prop := w.ownsRow B 5 1 v l.length (bv l)
theorem Ow.bs {w : World} {B : Nat} {v : Value} {l : List UInt8} (h : Ow w B v l) : BsA w v l := by
 obtain ⟨h1, ⟨rfl, h2⟩ | ⟨g, cap, cur, rfl, hB, hg, hn, hm, hs, ht⟩⟩ := h
 ·exact ⟨none, 0, by rw [h2], .inl (List.length_eq_zero_iff.1 h2)⟩
 ·refine ⟨_, cap, rfl, .inr ⟨g, 0, rfl, (Array.getElem?_eq_some_iff.1 hg).1, fun j x hj => ?_⟩⟩
  simp only [World.cell?, hg]
  rw [Nat.zero_add, ← Array.getElem?_toList]
  have hjl := (List.getElem?_eq_some_iff.1 hj).1
  have e := congrArg (·[j]?) ht
  simp only [List.getElem?_take] at e
  rw [if_pos (by omega)] at e
  rw [e]
  simp [bv, hj]
theorem Ow.slc {w : World} {B : Nat} {v : Value} {l : List UInt8} (h : Ow w B v l) : ∃ a cap, v = .slice a l.length cap := by
 obtain ⟨a, cap, rfl, _⟩ := h.bs
 exact ⟨a, cap, rfl⟩
theorem Ow.later {w w' : World} {B : Nat} {v : Value} {l : List UInt8} (h : Ow w B v l) (hb : Below w.heap.size w w') : Ow w' B v l := by
 obtain ⟨h1, h2 | ⟨g, cap, cur, hv, hB, hg, r⟩⟩ := h
 ·exact ⟨h1, .inl h2⟩
 ·exact ⟨h1, .inr ⟨g, cap, cur, hv, hB, (hb.block g (Array.getElem?_eq_some_iff.1 hg).1).trans hg, r⟩⟩
theorem Ow.block {w : World} {B : Nat} {v : Value} {l : List UInt8} (h : Ow w B v l) : ∀ g, v.ownBlock = some g → B ≤ g := by
 obtain ⟨h1, ⟨rfl, h2⟩ | ⟨g, cap, cur, rfl, hB, _⟩⟩ := h
 ·intro g e; cases e
 ·intro g' e; cases e; exact hB
theorem info_u8 : (Tryz.prog.info? 5).map (fun i => (i.zero, i.size, i.bytes)) = some (some (.int .u8 0), 1, 1) := by kernel_rfl
theorem wpList_apb {w : World} {ops : Array Oper} {rest : List Oper} {o : Oper} {a : Act} {Q : Exit → Act → World → Prop} (hgd : o.guard = none) (s x : Operand)
  (ho : o.op = .call { callee := .builtin .append, args := #[s, x], argTypes := #[22, 22] }) (B : Nat) (v : Value) (l : List UInt8) (hs : a.eval s = v) (hown : Ow w B v l)
  (u : Value) (m : List UInt8) (hx : a.eval x = u) (hb : BsA w u m) (hn : l.length + m.length ≤ 1000000) (hB : B ≤ w.heap.size)
  (h : ∀ v' w', Ow w' B v' (l ++ m) → w.grownBy w' v.ownBlock → wpList Tryz.prog ops Q rest (a.put o.dst v') w') : wpList Tryz.prog ops Q (o :: rest) a w := by
 refine wpList_plain hgd fun K hK => ?_
 obtain ⟨i0, hi, he⟩ := Option.map_eq_some_iff.1 info_u8
 simp only [Prod.mk.injEq] at he
 obtain ⟨hz0, hz1, hz2⟩ := he
 obtain ⟨v', w', hr, h2, h3⟩ : ∃ v' w', (Builtin.append_ #[22, 22] o.type #[v, u]).run Tryz.prog w = .ok v' w' ∧ Ow w' B v' (l ++ m) ∧ w.grownBy w' v.ownBlock := by
  obtain ⟨ad, c, rfl, hm⟩ := hb
  cases ad with
  | none =>
   obtain rfl : m = [] := by
    rcases hm with h | ⟨_, _, e, _⟩
    ·exact h
    ·cases e
   refine ⟨v, w, ?_, by simpa using hown, ⟨rfl, rfl, rfl, Nat.le_refl _, fun _ _ _ => rfl⟩⟩
   rcases hown.2 with ⟨rfl, _⟩ | ⟨g, cap, cur, rfl, _, _, hnc, _⟩
   ·simp [Builtin.append_, run_underlying Tryz.underlying22, sizeOf, typeInfo, hi, Builtin.lenOf, Builtin.firstCells]
   ·simp [Builtin.append_, run_underlying Tryz.underlying22, sizeOf, typeInfo, hi, Builtin.lenOf, Builtin.firstCells, hnc, storeCells]
  | some ad =>
   have hnews : ∀ j u, (bv m)[j]? = some u → w.cell? (ad.add j) = some u := by
    intro j u hj
    rcases hm with rfl | ⟨b, off, e, hbl, hc⟩
    ·simp [bv] at hj
    ·cases e
     cases hmj : m[j]? with
     | none => rw [bv, List.getElem?_map, hmj] at hj; cases hj
     | some y =>
      rw [bv, List.getElem?_map, hmj] at hj
      cases hj
      rw [Addr.add_lit]
      exact hc j y hmj
   obtain ⟨v', w', hr, h4, h5, _⟩ := run_append_own (P := Tryz.prog) w B 22 o.type 5 i0 (.int .u8 0) 1 1 Tryz.underlying22 hi hz0 hz1 hz2 rfl (by decide) v l.length (bv l) hown ad m.length c (bv m) (by simp [bv]) hnews
    (by intro u hu; simp [bv] at hu; obtain ⟨z, _, rfl⟩ := hu; rfl) (by unfold maxLen; omega) (by omega) hB
   refine ⟨v', w', hr, ?_, h5⟩
   unfold Ow
   rw [bv_app, List.length_append]
   exact h4
 unfold Oper.wp execOp
 simp only [ho, resolve, invoke, builtin, Sem.run_bind, Sem.run_pure, Result.andThen_ok, List.map_toArray, List.map_cons, List.map_nil, hs, hx, hr]
 exact hK _ _ (h v' w' h2 h3)
theorem BsA.grown {w w' : World} {u : Value} {m : List UInt8} {row : Option Nat} {B : Nat} (h : BsA w u m) (hg : w.grownBy w' row) (hr : ∀ r, row = some r → B ≤ r) (hu : ∀ a n c, u = .slice (some a) n c → a.block < B) : BsA w' u m := by
 obtain ⟨a, cap, rfl, h | ⟨b, o, rfl, hb, hc⟩⟩ := h
 ·exact ⟨a, cap, rfl, .inl h⟩
 ·have hbB := hu _ _ _ rfl
  refine ⟨_, cap, rfl, .inr ⟨b, o, rfl, Nat.lt_of_lt_of_le hb hg.size, fun j x hj => ?_⟩⟩
  rw [World.cell?_of_block (w := w) (hg.block b hb (fun e => by have := hr b e.symm; simp at hbB; omega))]
  exact hc j x hj
theorem below_gr {w w' : World} {row : Option Nat} {B : Nat} (hg : w.grownBy w' row) (hr : ∀ r, row = some r → B ≤ r) (hB : B ≤ w.heap.size) : Below B w w' := ⟨hg.os, hg.tape, hg.output, hg.size, fun k hk => hg.block k (by omega) (fun e => by have := hr k e.symm; omega)⟩
section
variable {α : Type} {one : List UInt8 → Option (α × List UInt8)} {e : UInt8}
theorem its_all {Pp : α → Prop} {N : Nat} (ho : ∀ l x r, one l = some (x, r) → l.length ≤ N → Pp x ∧ r.length ≤ l.length) : ∀ (n : Nat) {xs ys : List α} {l r : List UInt8}, its one e n xs l = some (ys, r) → l.length ≤ N → (∀ x ∈ xs, Pp x) → (∀ x ∈ ys, Pp x) ∧ ys.length ≤ xs.length + l.length + 1
 | n, xs, ys, l, r, h, hN, hx => by
  cases h1 : one l with
  | none => rw [its_non h1] at h; cases h
  | some y =>
   obtain ⟨x, q⟩ := y
   obtain ⟨a, hql⟩ := ho _ _ _ h1 hN
   have hxs : ∀ z ∈ xs ++ [x], Pp z := fun z hz => by
    rcases List.mem_append.1 hz with hz | hz
    ·exact hx z hz
    ·simp at hz; subst hz; exact a
   cases he : hp [e] (sk q) with
   | true =>
    rw [its_end h1 he] at h; cases h
    exact ⟨hxs, by simp⟩
   | false =>
    cases hc : hp [44] (sk q) with
    | false => rw [its_bad h1 he hc] at h; cases h
    | true =>
     cases n with
     | zero => rw [its, h1] at h; simp [he, hc] at h
     | succ n =>
      rw [its_go h1 he hc] at h
      have t1 := tk_lt hc
      have t2 := sk_le q
      obtain ⟨g1, g2⟩ := its_all ho n h (by omega) hxs
      refine ⟨g1, ?_⟩
      simp only [List.length_append, List.length_cons, List.length_nil] at g2
      omega
theorem rw_all {Pp : α → Prop} {N : Nat} {b : UInt8} (ho : ∀ l x r, one l = some (x, r) → l.length ≤ N → Pp x ∧ r.length ≤ l.length) {ys : List α} {l r : List UInt8} (h : rw' one b e l = some (ys, r)) (hN : l.length ≤ N) : (∀ x ∈ ys, Pp x) ∧ ys.length ≤ l.length + 1 := by
 unfold rw' at h
 have a := sk_le l
 have c := tk_le [b] (sk l)
 have f := sk_le (tk [b] (sk l))
 split at h
 ·split at h
  ·cases h; exact ⟨by simp, by simp⟩
  ·obtain ⟨g1, g2⟩ := its_all ho _ h (by omega) (by simp)
   exact ⟨g1, by simp at g2; omega⟩
 ·cases h
end
theorem pv_hgt : ∀ (n : Nat) (l : List UInt8) (x : T) (r : List UInt8), pv n l = some (x, r) → l.length ≤ 4096 → hgt (n + 1) x
 | n, l, x, r, h, hN => by
  have a := sk_le l
  unfold pv at h
  generalize sk l = m at *
  have leaf : ∀ k i s, hgt (n + 1) (.mk k i s [] []) := fun k i s => ⟨by simp, by simp, by simp, by simp⟩
  cases m with
  | nil => cases h
  | cons b m =>
   simp only at h
   split at h
   ·split at h
    ·cases h; exact leaf _ _ _
    ·cases h
   ·split at h
    ·split at h
     ·cases h; exact leaf _ _ _
     ·cases h
    ·split at h
     ·split at h
      ·cases h; exact leaf _ _ _
      ·cases h
     ·split at h
      ·split at h
       ·cases h
       ·cases h; exact leaf _ _ _
      ·split at h
       ·cases n with
        | zero => cases h
        | succ n =>
         simp only at h
         split at h
         ·cases h
         ·rename_i hq
          cases h
          obtain ⟨g1, g2⟩ := rw_all (N := 4096) (Pp := hgt (n + 1)) (fun l x r h hl => ⟨pv_hgt n l x r h hl, pv_le n l x r h⟩) hq (by omega)
          exact ⟨by omega, by simp, g1, by simp⟩
       ·split at h
        ·cases n with
         | zero => cases h
         | succ n =>
          simp only at h
          split at h
          ·cases h
          ·rename_i hq
           split at h
           ·cases h
            obtain ⟨g1, g2⟩ := rw_all (N := 4096) (Pp := fun q : List UInt8 × T => hgt (n + 1) q.2) (fun l x r h hl => by
             refine ⟨?_, pr_le (pv_le n) h⟩
             unfold pr at h
             have b1 := sk_le l
             split at h
             ·cases h
             ·rename_i s q hq
              have b2 := qt_le hq
              have b3 := sk_le q
              have b4 := tk_le [58] (sk q)
              split at h
              ·split at h
               ·cases h
               ·rename_i v t hv
                cases h
                exact pv_hgt n _ _ _ hv (by omega)
              ·cases h) hq (by omega)
            exact ⟨by simp, by omega, by simp, g1⟩
           ·cases h
        ·split at h
         ·cases h
         ·cases h; exact leaf _ _ _
def cj : List (List UInt8) → List UInt8
 | [] => []
 | x :: r => x ++ r.flatMap fun y => 44 :: y
theorem cj_snoc (xs : List (List UInt8)) (x : List UInt8) : cj (xs ++ [x]) = if xs = [] then x else cj xs ++ 44 :: x := by
 cases xs with
 | nil => simp [cj]
 | cons y r => simp [cj]
def cz : Nat → T → List UInt8
 | 0, _ => []
 | n + 1, .mk k i s l p => if k = 0 then [110, 117, 108, 108] else if k = 1 then Lib.formatBool (decide (i = 1)) else if k = 2 then Lib.itoa i else if k = 3 then qu s
  else if k = 4 then 91 :: (cj (l.map (cz n)) ++ [93]) else if k = 5 then 123 :: (cj (p.map fun q => qu q.1 ++ 58 :: cz n q.2) ++ [125]) else []
theorem wpList_aps {w : World} {ops : Array Oper} {rest : List Oper} {o : Oper} {a : Act} {Q : Exit → Act → World → Prop} (hgd : o.guard = none) (s x : Operand)
  (ho : o.op = .call { callee := .builtin .append, args := #[s, x], argTypes := #[22, 9] }) (B : Nat) (v : Value) (l : List UInt8) (hs : a.eval s = v) (hown : Ow w B v l)
  (m : List UInt8) (hx : a.eval x = .string (st m)) (hn : l.length + m.length ≤ 1000000) (hB : B ≤ w.heap.size)
  (h : ∀ v' w', Ow w' B v' (l ++ m) → w.grownBy w' v.ownBlock → (∀ k, v'.ownBlock = some k → v.ownBlock = some k ∨ w.heap.size ≤ k) → wpList Tryz.prog ops Q rest (a.put o.dst v') w') : wpList Tryz.prog ops Q (o :: rest) a w := by
 refine wpList_plain hgd fun K hK => ?_
 obtain ⟨i0, hi, he⟩ := Option.map_eq_some_iff.1 info_u8
 simp only [Prod.mk.injEq] at he
 obtain ⟨hz0, hz1, hz2⟩ := he
 have hsz := st_size m
 obtain ⟨v', w', hr, h2, h3, _⟩ := Go.Lib.run_append_own_string (P := Tryz.prog) (w := w) B 22 9 o.type 5 i0 Tryz.underlying22 Tryz.underlying9 hi hz0 hz1 hz2 v l.length (bv l) hown (st m) (by unfold maxLen; omega) (by omega) hB
 have hblk : ∀ k, v'.ownBlock = some k → v.ownBlock = some k ∨ w.heap.size ≤ k := by
  rcases id hown.2 with ⟨rfl, hl0⟩ | ⟨g, cap, cur, rfl, hbg, hg, hnc, hcm, hcs, htake⟩
  ·obtain rfl : l = [] := List.length_eq_zero_iff.1 hl0
   obtain ⟨v2, w2, hr2, h4, _⟩ := Go.Lib.run_append_own_string (P := Tryz.prog) (w := w) w.heap.size 22 9 o.type 5 i0 Tryz.underlying22 Tryz.underlying9 hi hz0 hz1 hz2 (.slice none 0 0) 0 [] (World.ownsRow_nil w w.heap.size 5 1) (st m) (by unfold maxLen; omega) (by omega) (Nat.le_refl _)
   rw [hr] at hr2
   cases hr2
   intro k hk
   obtain ⟨_, ⟨rfl, _⟩ | ⟨g', cap', cur', rfl, hB', _⟩⟩ := h4
   ·cases hk
   ·cases hk; exact .inr hB'
  ·intro k hk
   by_cases hroom : l.length + (st m).size ≤ cap
   ·have hr2 := Go.Lib.run_append_room_string (P := Tryz.prog) w 22 9 o.type 5 i0 Tryz.underlying22 Tryz.underlying9 hi hz1 g l.length cap cur hg (st m) hroom (by rw [Nat.mul_one] at hcs; omega)
    rw [hr] at hr2
    cases hr2
    exact .inl hk
   ·have holds : ∀ j u, (bv l)[j]? = some u → w.cell? ((⟨g, 0, none⟩ : Addr).add j) = some u := World.ownsRow.cells (g := g) hown rfl
    have hr2 := Go.Lib.run_append_grow_string (P := Tryz.prog) w 22 9 o.type 5 i0 (.int .u8 0) Tryz.underlying22 Tryz.underlying9 hi hz0 ⟨g, 0, none⟩ l.length cap (bv l) (by rw [hz1, bv_len, Nat.mul_one]) holds (st m) (by omega) (by omega) (by rw [hz2]; exact growslice_fits (by omega) (by omega))
    rw [hr] at hr2
    cases hr2
    cases hk
    exact .inr (Nat.le_refl _)
 have h2' : Ow w' B v' (l ++ m) := by
  unfold Ow
  rw [bv_app, List.length_append, ← hsz]
  exact h2
 unfold Oper.wp execOp
 simp only [ho, resolve, invoke, builtin, Sem.run_bind, Sem.run_pure, Result.andThen_ok, List.map_toArray, List.map_cons, List.map_nil, hs, hx, hr]
 exact hK _ _ (h v' w' h2' h3 hblk)
structure Wk (q : Nat) (ov ov' : Value) (w w' : World) : Prop where
 os : w'.os = w.os
 tape : w'.tape = w.tape
 output : w'.output = w.output
 size : w.heap.size ≤ w'.heap.size
 block : ∀ k, k < w.heap.size → k ≠ q → ov.ownBlock ≠ some k → w'.heap[k]? = w.heap[k]?
 own : ∀ k, ov'.ownBlock = some k → ov.ownBlock = some k ∨ w.heap.size ≤ k
theorem Wk.refl (q : Nat) (ov : Value) (w : World) : Wk q ov ov w w := ⟨rfl, rfl, rfl, Nat.le_refl _, fun _ _ _ _ => rfl, fun _ h => .inl h⟩
theorem Wk.trans {q : Nat} {a b c : Value} {w w1 w2 : World} (h : Wk q a b w w1) (h2 : Wk q b c w1 w2) : Wk q a c w w2 :=
 ⟨h2.os.trans h.os, h2.tape.trans h.tape, h2.output.trans h.output, Nat.le_trans h.size h2.size, fun k hk hq ho => (h2.block k (Nat.lt_of_lt_of_le hk h.size) hq fun e => (h.own k e).elim ho fun e => by omega).trans (h.block k hk hq ho),
  fun k e => (h2.own k e).elim (h.own k) fun e => .inr (Nat.le_trans h.size e)⟩
theorem Wk.below {q : Nat} {a b : Value} {w w1 w2 : World} (h : Wk q a b w w1) (h2 : Below w1.heap.size w1 w2) : Wk q a b w w2 :=
 ⟨h2.os.trans h.os, h2.tape.trans h.tape, h2.output.trans h.output, Nat.le_trans h.size h2.size, fun k hk hq ho => (h2.block k (Nat.lt_of_lt_of_le hk h.size)).trans (h.block k hk hq ho), h.own⟩
theorem Wk.ofB {q : Nat} {a : Value} {w w1 : World} (h : Below w.heap.size w w1) : Wk q a a w w1 := (Wk.refl q a w).below h
structure Wt (w : World) (q : Nat) (ov : Value) (z : List UInt8) : Prop where
 box : w.heap[q]? = some (.cells #[ov, .bool (decide (4096 < z.length))] 66 (0, 0))
 own : ∃ out, Ow w (q + 1) ov out ∧ out.length ≤ 4096 ∧ (4096 < z.length ∨ out = z)
theorem Wt.below {w w' : World} {q : Nat} {ov : Value} {z : List UInt8} (h : Wt w q ov z) (hb : Below w.heap.size w w') : Wt w' q ov z := by
 obtain ⟨h1, out, h2, h3⟩ := h
 exact ⟨(hb.block q (Array.getElem?_eq_some_iff.1 h1).1).trans h1, out, h2.later hb, h3⟩
theorem Ow.row {w : World} {q : Nat} {v : Value} {l : List UInt8} (h : Ow w (q + 1) v l) (c : Array Value) : Ow (w.setRow q c) (q + 1) v l :=
 own_kept h fun k e => setRow_other w q k c (by have := h.block k e; omega)
theorem Wk.row {w : World} {q : Nat} (ov ov' : Value) (c : Array Value) (ho : ∀ k, ov'.ownBlock = some k → ov.ownBlock = some k ∨ w.heap.size ≤ k) : Wk q ov ov' w (w.setRow q c) :=
 ⟨rfl, rfl, rfl, by simp [World.setRow], fun k _ hq _ => setRow_other w q k c hq, ho⟩
theorem sw_row {w : World} {q i : Nat} {c : Array Value} {v : Value} (h : w.heap[q]? = some (.cells c 66 (0, 0))) : w.setCell ⟨q, i, none⟩ v = w.setRow q (c.setIfInBounds i v) := setCell_eq_setRow w q i _ _ (0, 0) v h
set_option maxHeartbeats 1600000 in
set_option maxRecDepth 100000 in
theorem add_d {w : World} {q : Nat} {ov : Value} {z s : List UInt8} (h : Wt w q ov z) : Calls Tryz.prog 58 #[.pointer (some ⟨q, 0, none⟩), .string (st s)] w fun e w' => e = .returned (.tuple #[]) ∧ ∃ ov', Wt w' q ov' (z ++ s) ∧ Wk q ov ov' w w' := by
 obtain ⟨hbx, out, hown, hl, hz⟩ := h
 have hsz : Hid ((st s).size = s.length) := hide1 (st_size s)
 have f0 : w.frozen? ⟨q, 0, none⟩ = false := by simp [World.frozen?, hbx]
 have f1 : w.frozen? ⟨q, 1, none⟩ = false := by simp [World.frozen?, hbx]
 have hql := (Array.getElem?_eq_some_iff.1 hbx).1
 by_cases hov : 4096 < z.length
 ·rw [decide_eq_true hov] at hbx
  have c1 : w.cell? ⟨q, 1, none⟩ = some (.bool true) := by simp only [World.cell?, hbx]; rfl
  have e1 : w.setCell ⟨q, 1, none⟩ (.bool true) = w.setRow q #[ov, .bool true] := by rw [sw_row hbx]; rfl
  have hn := setRow_heap w q _ #[ov, .bool true] _ _ hbx
  have c2 : (w.setCell ⟨q, 1, none⟩ (.bool true)).cell? ⟨q, 1, none⟩ = some (.bool true) := by rw [e1]; simp only [World.cell?, hn]; rfl
  have hf : Hid (Wt (w.setCell ⟨q, 1, none⟩ (.bool true)) q ov (z ++ s) ∧ Wk q ov ov w (w.setCell ⟨q, 1, none⟩ (.bool true))) := hide1 (by
   have hzs : 4096 < (z ++ s).length := by rw [List.length_append]; omega
   rw [e1]
   exact ⟨⟨by rw [decide_eq_true hzs]; exact hn, out, hown.row _, hl, .inl hzs⟩, Wk.row _ _ _ fun _ h => .inl h⟩)
  clear hown hz hbx e1 hn
  go_enter Tryz.func58, Tryz.ntmps58
  go_wp2
  go_end0
  exact ⟨rfl, ov, hf.out⟩
 ·obtain rfl : out = z := hz.resolve_left hov
  rw [decide_eq_false hov] at hbx
  obtain ⟨oa, oc, rfl⟩ := hown.slc
  have c0 : w.cell? ⟨q, 0, none⟩ = some (.slice oa out.length oc) := by simp only [World.cell?, hbx]; rfl
  have c1 : w.cell? ⟨q, 1, none⟩ = some (.bool false) := by simp only [World.cell?, hbx]; rfl
  obtain ⟨N, hN⟩ : ∃ N, Hid (N = out.length) := ⟨_, hide1 rfl⟩
  by_cases hs : 4096 < out.length + s.length
  ·have e1 : w.setCell ⟨q, 1, none⟩ (.bool true) = w.setRow q #[.slice oa out.length oc, .bool true] := by rw [sw_row hbx]; rfl
   have hn := setRow_heap w q _ #[.slice oa out.length oc, .bool true] _ _ hbx
   have c2 : (w.setCell ⟨q, 1, none⟩ (.bool true)).cell? ⟨q, 1, none⟩ = some (.bool true) := by rw [e1]; simp only [World.cell?, hn]; rfl
   have hf : Hid (Wt (w.setCell ⟨q, 1, none⟩ (.bool true)) q (.slice oa out.length oc) (out ++ s) ∧ Wk q (.slice oa out.length oc) (.slice oa out.length oc) w (w.setCell ⟨q, 1, none⟩ (.bool true))) := hide1 (by
    have hzs : 4096 < (out ++ s).length := by rw [List.length_append]; omega
    rw [e1]
    exact ⟨⟨by rw [decide_eq_true hzs]; exact hn, out, hown.row _, hl, .inl hzs⟩, Wk.row _ _ _ fun _ h => .inl h⟩)
   have ht : (4096 : Int) - (out.length : Int) < ((st s).size : Int) := by rw [hsz.out]; omega
   clear hown hz hbx e1 hn
   go_enter Tryz.func58, Tryz.ntmps58
   go_wp2
   go_end0
   exact ⟨rfl, _, hf.out⟩
  ·have e1 : w.setCell ⟨q, 1, none⟩ (.bool false) = w.setRow q #[.slice oa out.length oc, .bool false] := by rw [sw_row hbx]; rfl
   have hn := setRow_heap w q _ #[.slice oa out.length oc, .bool false] _ _ hbx
   obtain ⟨w1, hw1⟩ : ∃ w1, w1 = w.setCell ⟨q, 1, none⟩ (.bool false) := ⟨_, rfl⟩
   rw [← hw1] at e1
   rw [← e1] at hn
   have c2 : w1.cell? ⟨q, 1, none⟩ = some (.bool false) := by simp only [World.cell?, hn]; rfl
   have c3 : w1.cell? ⟨q, 0, none⟩ = some (.slice oa out.length oc) := by simp only [World.cell?, hn]; rfl
   have hown1 : Ow w1 (q + 1) (.slice oa out.length oc) out := by rw [e1]; exact hown.row _
   have hk1 : Wk q (.slice oa out.length oc) (.slice oa out.length oc) w w1 := by rw [e1]; exact Wk.row _ _ _ fun _ h => .inl h
   have hs1 : q + 1 ≤ w1.heap.size := (Array.getElem?_eq_some_iff.1 hn).1
   have ht : ¬ (4096 : Int) - (out.length : Int) < ((st s).size : Int) := by rw [hsz.out]; omega
   have hz3 : Hid (decide (4096 < (out ++ s).length) = false ∧ (out ++ s).length ≤ 4096) := hide1 (by
    rw [List.length_append]
    exact ⟨decide_eq_false hs, by omega⟩)
   replace hk1 := hide1 hk1
   replace hn := hide1 hn
   clear hown hz hbx e1
   go_enter Tryz.func58, Tryz.ntmps58
   go_upto_region 1 with fail
   rw [← hw1]
   clear hw1
   go_wp2_with (at_builtin; refine wpList_aps rfl (.tmp 31) (.tmp 32) rfl (q + 1) _ out rfl hown1 s rfl (by omega) hs1 ?_; intro v2 w2 hown2 hg2 hb2; obtain ⟨oa2, oc2, hv2⟩ := hown2.slc; subst hv2; have hn2 : w2.heap[q]? = some (.cells #[.slice oa out.length oc, .bool false] 66 (0, 0)) := (hg2.block q (by omega) (fun e => by have := hown1.block q e.symm; omega)).trans hn.out; have c4 : w2.cell? ⟨q, 0, none⟩ = some (.slice oa out.length oc) := (by simp only [World.cell?, hn2]; rfl); have f4 : w2.frozen? ⟨q, 0, none⟩ = false := (by simp [World.frozen?, hn2]); replace hn2 := hide1 hn2; replace hown2 := hide1 hown2; replace hg2 := hide1 hg2; replace hb2 := hide1 hb2)
   go_end0
   rw [← List.length_append]
   have e3 : w2.setCell ⟨q, 0, none⟩ (.slice oa2 (out ++ s).length oc2) = w2.setRow q #[(.slice oa2 (out ++ s).length oc2), .bool false] := by rw [sw_row hn2.out]; rfl
   rw [e3]
   have hn3 := setRow_heap w2 q _ #[(.slice oa2 (out ++ s).length oc2), .bool false] _ _ hn2.out
   refine ⟨rfl, (.slice oa2 (out ++ s).length oc2), ⟨by rw [hz3.out.1]; exact hn3, out ++ s, hown2.out.row _, hz3.out.2, .inr rfl⟩, ?_⟩
   have hg := hg2.out
   exact hk1.out.trans ⟨hg.os, hg.tape, hg.output, by simpa [World.setRow] using hg.size, fun k hk hq ho => (setRow_other w2 q k _ hq).trans (hg.block k hk (fun e => ho e.symm)), hb2.out⟩
end Go.Proofs.YtbemaloaobeblaaGreatDoor

namespace Go.Proofs.YtbemaloaobeblaaGreatDoor
section
variable {α : Type} (lt : α → α → Bool)
def mg : List α → List α → List α
 | [], B => B
 | x :: A, B => B.takeWhile (lt · x) ++ x :: mg A (B.dropWhile (lt · x))
def ss (L : List α) : List α := L.foldl (fun P x => mg lt P [x]) []
def Ri (L : List α) : Prop := L.Pairwise fun a b => lt b a = false
structure Ok : Prop where
 irr : ∀ a, lt a a = false
 tr : ∀ a b c, lt a b = true → lt b c = true → lt a c = true
 wk : ∀ a b c, lt a b = true → lt a c = true ∨ lt c b = true
variable {lt}
theorem mg_nil (A : List α) : mg lt A [] = A := by
 induction A with
 | nil => rfl
 | cons x A ih => simp [mg, ih]
theorem tw_app {p : α → Bool} {B C : List α} (h : ∀ c ∈ C, p c = false) : (B ++ C).takeWhile p = B.takeWhile p ∧ (B ++ C).dropWhile p = B.dropWhile p ++ C := by
 induction B with
 | nil =>
  cases C with
  | nil => simp
  | cons c C => have := h c (by simp); simp [this]
 | cons b B ih =>
  by_cases hb : p b = true
  ·simp [hb, ih.1, ih.2]
  ·simp [hb]
theorem tw_all {p : α → Bool} {B C : List α} (h : ∀ b ∈ B, p b = true) : (B ++ C).takeWhile p = B ++ C.takeWhile p ∧ (B ++ C).dropWhile p = C.dropWhile p := by
 induction B with
 | nil => simp
 | cons b B ih =>
  have h1 := h b (by simp)
  have h2 := ih fun x hx => h x (by simp [hx])
  simp [h1, h2.1, h2.2]
theorem mg_split {A2 B2 : List α} : ∀ {A1 B1 : List α}, (∀ b ∈ B1, ∀ a ∈ A2, lt b a = true) → (∀ a ∈ A1, ∀ b ∈ B2, lt b a = false) → mg lt (A1 ++ A2) (B1 ++ B2) = mg lt A1 B1 ++ mg lt A2 B2
 | [], B1, h1, h2 => by
  cases A2 with
  | nil => simp [mg]
  | cons x A =>
   have h := tw_all (p := (lt · x)) (B := B1) (C := B2) fun b hb => h1 b hb x (by simp)
   simp only [List.nil_append, mg]
   rw [h.1, h.2, List.append_assoc]
 | x :: A1, B1, h1, h2 => by
  have h := tw_app (p := (lt · x)) (B := B1) (C := B2) fun b hb => h2 x (by simp) b hb
  simp only [List.cons_append, mg]
  rw [h.1, h.2, mg_split (fun b hb a ha => h1 b ((List.dropWhile_sublist _).subset hb) a ha) (fun a ha b hb => h2 a (by simp [ha]) b hb), List.append_assoc, List.cons_append]
theorem or_rot (p q r s : Prop) : (p ∨ q ∨ r ∨ s) ↔ ((q ∨ r) ∨ (p ∨ s)) := by grind
theorem mg_mem {x : α} : ∀ {A B : List α}, x ∈ mg lt A B ↔ x ∈ A ∨ x ∈ B
 | [], B => by simp [mg]
 | y :: A, B => by
  have h : x ∈ B ↔ x ∈ B.takeWhile (lt · y) ∨ x ∈ B.dropWhile (lt · y) := by
   rw [← List.mem_append, List.takeWhile_append_dropWhile]
  simp only [mg, List.mem_append, List.mem_cons, mg_mem (A := A), h]
  exact or_rot _ _ _ _
theorem mg_len : ∀ (A B : List α), (mg lt A B).length = A.length + B.length
 | [], B => by simp [mg]
 | y :: A, B => by
  have h := congrArg List.length (List.takeWhile_append_dropWhile (p := (lt · y)) (l := B))
  rw [List.length_append] at h
  simp only [mg, List.length_append, List.length_cons, mg_len A]
  omega
theorem mg_perm : ∀ (A B : List α), (mg lt A B).Perm (A ++ B)
 | [], B => by simp [mg]
 | y :: A, B => by
  simp only [mg, List.cons_append]
  refine List.perm_middle.trans (List.Perm.cons _ ?_)
  refine ((mg_perm A _).append_left _).trans ?_
  rw [← List.append_assoc]
  refine (List.perm_append_comm.append_right _).trans ?_
  rw [List.append_assoc, List.takeWhile_append_dropWhile]
theorem part (h : Ok lt) (x : α) : ∀ {A : List α}, Ri lt A → ∃ A1 A2, A = A1 ++ A2 ∧ (∀ a ∈ A1, lt x a = false) ∧ (∀ a ∈ A2, lt x a = true)
 | [], _ => ⟨[], [], rfl, by simp, by simp⟩
 | a :: A, hr => by
  have hr2 := List.pairwise_cons.1 hr
  cases hx : lt x a with
  | true => exact ⟨[], a :: A, rfl, by simp, fun b hb => by
    rcases List.mem_cons.1 hb with rfl | hb
    ·exact hx
    ·rcases h.wk x a b hx with h3 | h3
     ·exact h3
     ·rw [hr2.1 b hb] at h3; cases h3⟩
  | false =>
   obtain ⟨A1, A2, e, h1, h2⟩ := part h x hr2.2
   exact ⟨a :: A1, A2, by rw [e]; rfl, fun b hb => by
    rcases List.mem_cons.1 hb with rfl | hb
    ·exact hx
    ·exact h1 b hb, h2⟩
theorem part' (h : Ok lt) (x : α) : ∀ {A : List α}, Ri lt A → (∀ a ∈ A.dropWhile (lt · x), lt a x = false)
 | [], _ => by simp
 | a :: A, hr => by
  have hr2 := List.pairwise_cons.1 hr
  cases hx : lt a x with
  | true => simp only [List.dropWhile_cons, hx, if_true]; exact part' h x hr2.2
  | false =>
   simp only [List.dropWhile_cons, hx]
   intro b hb
   rcases List.mem_cons.1 (by simpa using hb) with rfl | hb
   ·exact hx
   ·cases hbx : lt b x with
    | false => rfl
    | true =>
     rcases h.wk b x a hbx with h3 | h3
     ·rw [hr2.1 b hb] at h3; cases h3
     ·rw [hx] at h3; cases h3
theorem tw_mem {p : α → Bool} {x : α} : ∀ {B : List α}, x ∈ B.takeWhile p → p x = true
 | [], h => by simp at h
 | b :: B, h => by
  rw [List.takeWhile_cons] at h
  split at h
  ·rename_i hb
   rcases List.mem_cons.1 h with rfl | h
   ·exact hb
   ·exact tw_mem h
  ·simp at h
theorem mg_ri (h : Ok lt) : ∀ {A B : List α}, Ri lt A → Ri lt B → Ri lt (mg lt A B)
 | [], B, _, hB => hB
 | x :: A, B, hA, hB => by
  have hA2 := List.pairwise_cons.1 hA
  have hd := part' h x hB
  have hB2 : Ri lt (B.takeWhile (lt · x) ++ B.dropWhile (lt · x)) := by rw [List.takeWhile_append_dropWhile]; exact hB
  have hB3 := List.pairwise_append.1 hB2
  refine List.pairwise_append.2 ⟨hB3.1, List.pairwise_cons.2 ⟨fun b hb => ?_, mg_ri h hA2.2 hB3.2.1⟩, fun a ha b hb => ?_⟩
  ·rcases mg_mem.1 hb with hb | hb
   ·exact hA2.1 b hb
   ·exact hd b hb
  ·have hax := tw_mem ha
   rcases List.mem_cons.1 hb with rfl | hb
   ·cases e : lt b a with
    | false => rfl
    | true => have := h.tr _ _ _ e hax; rw [h.irr] at this; cases this
   ·rcases mg_mem.1 hb with hb | hb
    ·cases e : lt b a with
     | false => rfl
     | true => have := h.tr _ _ _ e hax; rw [hA2.1 b hb] at this; cases this
    ·exact hB3.2.2 a ha b hb
theorem mg_one (h : Ok lt) {A B : List α} (x : α) (hA : Ri lt A) (hB : Ri lt B) : mg lt (mg lt A B) [x] = mg lt A (mg lt B [x]) := by
 obtain ⟨A1, A2, rfl, a1, a2⟩ := part h x hA
 obtain ⟨B1, B2, rfl, b1, b2⟩ := part h x hB
 have q : ∀ {a b : α}, lt x a = false → lt x b = true → lt a b = true := fun {a b} ha hb => by
  rcases h.wk x b a hb with h3 | h3
  ·rw [ha] at h3; cases h3
  ·exact h3
 have q2 : ∀ {a b : α}, lt x a = false → lt x b = true → lt b a = false := fun {a b} ha hb => by
  cases e : lt b a with
  | false => rfl
  | true => have := h.tr _ _ _ (q ha hb) e; rw [h.irr] at this; cases this
 have e1 : mg lt (A1 ++ A2) (B1 ++ B2) = mg lt A1 B1 ++ mg lt A2 B2 := mg_split (fun b hb a ha => q (b1 b hb) (a2 a ha)) (fun a ha b hb => q2 (a1 a ha) (b2 b hb))
 have ins : ∀ {S1 S2 : List α}, (∀ s ∈ S1, lt x s = false) → (∀ s ∈ S2, lt x s = true) → mg lt (S1 ++ S2) [x] = S1 ++ x :: S2 := fun {S1 S2} h1 h2 => by
  have e := mg_split (lt := lt) (A1 := S1) (A2 := S2) (B1 := []) (B2 := [x]) (by simp) (fun a ha b hb => by rcases List.mem_singleton.1 hb with rfl; exact h1 a ha)
  have e2 := mg_split (lt := lt) (A1 := []) (A2 := S2) (B1 := [x]) (B2 := []) (fun b hb a ha => by rcases List.mem_singleton.1 hb with rfl; exact h2 a ha) (by simp)
  simp only [List.nil_append, List.append_nil, mg_nil, mg] at e e2
  rw [e, e2]
  rfl
 rw [e1, ins (fun s hs => (mg_mem.1 hs).elim (a1 s) (b1 s)) (fun s hs => (mg_mem.1 hs).elim (a2 s) (b2 s)), ins b1 b2]
 rw [show B1 ++ x :: B2 = (B1 ++ [x]) ++ B2 by simp]
 rw [mg_split (B1 := B1 ++ [x]) (fun b hb a ha => by
  rcases List.mem_append.1 hb with hb | hb
  ·exact q (b1 b hb) (a2 a ha)
  ·rcases List.mem_singleton.1 hb with rfl; exact a2 a ha) (fun a ha b hb => q2 (a1 a ha) (b2 b hb))]
 have e3 := mg_split (lt := lt) (A1 := A1) (A2 := []) (B1 := B1) (B2 := [x]) (by simp) (fun a ha b hb => by rcases List.mem_singleton.1 hb with rfl; exact a1 a ha)
 simp only [List.append_nil, mg] at e3
 rw [e3]
 simp
theorem ss_snoc (L : List α) (x : α) : ss lt (L ++ [x]) = mg lt (ss lt L) [x] := by simp [ss]
theorem rev_ind {P : List α → Prop} (h0 : P []) (h1 : ∀ L x, P L → P (L ++ [x])) (L : List α) : P L := by
 have h : ∀ M : List α, P M.reverse := fun M => by
  induction M with
  | nil => exact h0
  | cons x M ih => rw [List.reverse_cons]; exact h1 _ _ ih
 have := h L.reverse
 rwa [List.reverse_reverse] at this
theorem ss_ri (h : Ok lt) (L : List α) : Ri lt (ss lt L) := by
 refine rev_ind (P := fun L => Ri lt (ss lt L)) List.Pairwise.nil (fun L x ih => ?_) L
 rw [ss_snoc]
 exact mg_ri h ih (List.pairwise_singleton _ _)
theorem ss_len (L : List α) : (ss lt L).length = L.length := by
 refine rev_ind (P := fun L => (ss lt L).length = L.length) rfl (fun L x ih => ?_) L
 rw [ss_snoc, mg_len, ih]
 simp
theorem ss_perm (L : List α) : (ss lt L).Perm L := by
 refine rev_ind (P := fun L => (ss lt L).Perm L) (List.Perm.refl _) (fun L x ih => ?_) L
 rw [ss_snoc]
 exact (mg_perm _ _).trans (ih.append_right _)
theorem ss_app (h : Ok lt) (L M : List α) : ss lt (L ++ M) = mg lt (ss lt L) (ss lt M) := by
 refine rev_ind (P := fun M => ss lt (L ++ M) = mg lt (ss lt L) (ss lt M)) ?_ (fun M x ih => ?_) M
 ·simp [ss, mg_nil]
 ·rw [← List.append_assoc, ss_snoc, ih, ss_snoc, mg_one h x (ss_ri h L) (ss_ri h M)]
end

section
variable {α : Type} {lt : α → α → Bool}
def sg (F : Nat → α) (a n : Nat) : List α := (List.range n).map fun i => F (a + i)
def sr (F : Nat → α) (a b n : Nat) : Nat → α := fun k => if a ≤ k ∧ k < a + n then F (k - a + b) else if b ≤ k ∧ k < b + n then F (k - b + a) else F k
def rot (F : Nat → α) (a m b : Nat) : Nat → α := fun k => if a ≤ k ∧ k < a + (b - m) then F (k - a + m) else if a + (b - m) ≤ k ∧ k < b then F (k - (b - m)) else F k
theorem sg_len (F : Nat → α) (a n : Nat) : (sg F a n).length = n := by simp [sg]
theorem sg_at {F : Nat → α} {a n j : Nat} (h : j < n) : (sg F a n)[j]? = some (F (a + j)) := by simp [sg, List.getElem?_map, List.getElem?_range h]
theorem sg_mem {F : Nat → α} {a n : Nat} {x : α} : x ∈ sg F a n ↔ ∃ k, a ≤ k ∧ k < a + n ∧ F k = x := by
 simp only [sg, List.mem_map, List.mem_range]
 constructor
 ·rintro ⟨i, hi, rfl⟩
  exact ⟨a + i, by omega, by omega, rfl⟩
 ·rintro ⟨k, h1, h2, rfl⟩
  exact ⟨k - a, by omega, by congr 1; omega⟩
theorem sg_congr {F G : Nat → α} {a b n : Nat} (h : ∀ i, i < n → F (a + i) = G (b + i)) : sg F a n = sg G b n := by
 refine List.map_congr_left fun i hi => h i (List.mem_range.1 hi)
theorem sg_app (F : Nat → α) (a n m : Nat) : sg F a (n + m) = sg F a n ++ sg F (a + n) m := by
 simp only [sg, List.range_add, List.map_append, List.map_map]
 congr 1
 refine List.map_congr_left fun i _ => ?_
 simp [Nat.add_assoc]
theorem sg_one (F : Nat → α) (a : Nat) : sg F a 1 = [F a] := by simp [sg]
theorem sg_nil (F : Nat → α) (a : Nat) : sg F a 0 = [] := rfl
theorem sg_cut (F : Nat → α) {a m b : Nat} (h1 : a ≤ m) (h2 : m ≤ b) : sg F a (b - a) = sg F a (m - a) ++ sg F m (b - m) := by
 have := sg_app F a (m - a) (b - m)
 rw [show m - a + (b - m) = b - a by omega, show a + (m - a) = m by omega] at this
 exact this
theorem rot_id (F : Nat → α) {a m b : Nat} (h : a = m ∨ m = b) : rot F a m b = F := by
 funext k
 unfold rot
 rcases h with rfl | rfl
 ·split
  ·congr 1; omega
  ·split
   ·omega
   ·rfl
 ·split
  ·omega
  ·split
   ·congr 1; omega
   ·rfl
theorem rot_gt (F : Nat → α) {m i j : Nat} (h1 : j < i) (h2 : i ≤ m) : rot (sr F (m - i) m j) (m - (i - j)) m (m + j) = rot F (m - i) m (m + j) := by
 funext k
 unfold rot sr
 try dsimp only
 (repeat' split) <;> first | rfl | omega | (congr 1; omega)
theorem rot_lt (F : Nat → α) {m i j : Nat} (h1 : i < j) (h2 : i ≤ m) : rot (sr F (m - i) (m + j - i) i) (m - i) m (m + (j - i)) = rot F (m - i) m (m + j) := by
 funext k
 unfold rot sr
 try dsimp only
 (repeat' split) <;> first | rfl | omega | (congr 1; omega)
theorem rot_eq (F : Nat → α) {m i : Nat} (h2 : i ≤ m) : sr F (m - i) m i = rot F (m - i) m (m + i) := by
 funext k
 unfold rot sr
 try dsimp only
 (repeat' split) <;> first | rfl | omega | (congr 1; omega)
theorem sr_0 (F : Nat → α) (a b : Nat) : sr F a b 0 = F := by
 funext k
 unfold sr
 try dsimp only
 (repeat' split) <;> first | rfl | omega
theorem sr_s (F : Nat → α) {a b i : Nat} (h : a + i < b) : sr (sr F a b i) (a + i) (b + i) 1 = sr F a b (i + 1) := by
 funext k
 unfold sr
 try dsimp only
 (repeat' split) <;> first | rfl | omega | (congr 1; omega)
theorem rot_up (F : Nat → α) {a k : Nat} (h : a ≤ k) : sr (rot F a (a + 1) (k + 1)) k (k + 1) 1 = rot F a (a + 1) (k + 2) := by
 funext x
 unfold rot sr
 try dsimp only
 (repeat' split) <;> first | rfl | omega | (congr 1; omega)
theorem rot_dn (F : Nat → α) {m k : Nat} (h : k + 1 ≤ m) : sr (rot F (k + 1) m (m + 1)) (k + 1) k 1 = rot F k m (m + 1) := by
 funext x
 unfold rot sr
 try dsimp only
 (repeat' split) <;> first | rfl | omega | (congr 1; omega)
theorem rot_mg {F : Nat → α} {a s m e b : Nat} (h1 : a ≤ s) (h2 : s ≤ m) (h3 : m ≤ e) (h4 : e ≤ b)
  (hl : ∀ k, m ≤ k → k < e → ∀ k', s ≤ k' → k' < m → lt (F k) (F k') = true) (hg : ∀ k', a ≤ k' → k' < s → ∀ k, e ≤ k → k < b → lt (F k) (F k') = false) :
  mg lt (sg F a (m - a)) (sg F m (b - m)) = mg lt (sg (rot F s m e) a (s - a)) (sg (rot F s m e) s (e - m)) ++ mg lt (sg (rot F s m e) (s + (e - m)) (m - s)) (sg (rot F s m e) e (b - e)) := by
 have e1 : sg (rot F s m e) a (s - a) = sg F a (s - a) := sg_congr fun i hi => by
  unfold rot; rw [if_neg (by omega), if_neg (by omega)]
 have e2 : sg (rot F s m e) s (e - m) = sg F m (e - m) := sg_congr fun i hi => by
  unfold rot; rw [if_pos (by omega)]; congr 1; omega
 have e3 : sg (rot F s m e) (s + (e - m)) (m - s) = sg F s (m - s) := sg_congr fun i hi => by
  unfold rot; rw [if_neg (by omega), if_pos (by omega)]; congr 1; omega
 have e4 : sg (rot F s m e) e (b - e) = sg F e (b - e) := sg_congr fun i hi => by
  unfold rot; rw [if_neg (by omega), if_neg (by omega)]
 rw [e1, e2, e3, e4, sg_cut F h1 h2, sg_cut F h3 h4]
 refine mg_split (fun x hx y hy => ?_) (fun y hy x hx => ?_)
 ·obtain ⟨k, g1, g2, rfl⟩ := sg_mem.1 hx
  obtain ⟨k', g3, g4, rfl⟩ := sg_mem.1 hy
  exact hl k g1 (by omega) k' g3 (by omega)
 ·obtain ⟨k, g1, g2, rfl⟩ := sg_mem.1 hx
  obtain ⟨k', g3, g4, rfl⟩ := sg_mem.1 hy
  exact hg k' g3 (by omega) k g1 (by omega)
def Mgd (lt : α → α → Bool) (F : Nat → α) (a m b : Nat) (G : Nat → α) : Prop := (∀ k, k < a ∨ b ≤ k → G k = F k) ∧ sg G a (b - a) = mg lt (sg F a (m - a)) (sg F m (b - m))
theorem mg_l1 {x : α} {B : List α} (h : ∀ b ∈ B, lt b x = false) : mg lt [x] B = x :: B := by
 have := tw_app (p := (lt · x)) (B := []) h
 simp only [List.nil_append, List.takeWhile_nil, List.dropWhile_nil] at this
 simp [mg, this.1, this.2]
theorem mg_r1 {x : α} : ∀ {A : List α}, (∀ a ∈ A, lt x a = false) → mg lt A [x] = A ++ [x]
 | [], _ => rfl
 | a :: A, h => by
  have h1 := h a (by simp)
  have h2 := mg_r1 (A := A) (x := x) fun b hb => h b (List.mem_cons_of_mem _ hb)
  simp [mg, h1, h2]
theorem mgd_l {F : Nat → α} {a i b : Nat} (h1 : a + 1 ≤ i) (h2 : i ≤ b) (hl : ∀ k, a + 1 ≤ k → k < i → lt (F k) (F a) = true) (hg : ∀ k, i ≤ k → k < b → lt (F k) (F a) = false) : Mgd lt F a (a + 1) b (rot F a (a + 1) i) := by
 refine ⟨fun k hk => by unfold rot; rw [if_neg (by omega), if_neg (by omega)], ?_⟩
 rw [rot_mg (s := a) (e := i) (Nat.le_refl _) (by omega) h1 h2 (fun k g1 g2 k' g3 g4 => by
   obtain rfl : k' = a := by omega
   exact hl k g1 g2) (fun k' g1 g2 => by omega)]
 rw [Nat.sub_self, sg_nil, show a + 1 - a = 1 by omega, sg_one]
 simp only [mg]
 have hx : rot F a (a + 1) i (a + (i - (a + 1))) = F a := by unfold rot; rw [if_neg (by omega), if_pos (by omega)]; congr 1; omega
 rw [hx]
 have hB : ∀ x ∈ sg (rot F a (a + 1) i) i (b - i), lt x (F a) = false := fun x hx => by
  obtain ⟨k, g1, g2, rfl⟩ := sg_mem.1 hx
  have : rot F a (a + 1) i k = F k := by unfold rot; rw [if_neg (by omega), if_neg (by omega)]
  rw [this]
  exact hg k g1 (by omega)
 have hm := mg_l1 hB
 simp only [mg] at hm
 rw [hm, sg_cut (rot F a (a + 1) i) (a := a) (m := i) (b := b) (by omega) h2]
 rw [sg_cut (rot F a (a + 1) i) (a := a) (m := i - 1) (b := i) (by omega) (by omega), show i - (i - 1) = 1 by omega, sg_one, show i - 1 = a + (i - (a + 1)) by omega, hx]
 rw [show a + (i - (a + 1)) - a = i - (a + 1) by omega]
 simp
theorem mgd_r {F : Nat → α} {a i m : Nat} (h1 : a ≤ i) (h2 : i ≤ m) (hl : ∀ k, a ≤ k → k < i → lt (F m) (F k) = false) (hg : ∀ k, i ≤ k → k < m → lt (F m) (F k) = true) : Mgd lt F a m (m + 1) (rot F i m (m + 1)) := by
 refine ⟨fun k hk => by unfold rot; rw [if_neg (by omega), if_neg (by omega)], ?_⟩
 rw [rot_mg (s := i) (e := m + 1) h1 h2 (by omega) (Nat.le_refl _) (fun k g1 g2 k' g3 g4 => by
   obtain rfl : k = m := by omega
   exact hg k' g3 g4) (fun k' g1 g2 k g3 g4 => by omega)]
 rw [Nat.sub_self, sg_nil, show m + 1 - m = 1 by omega, sg_one, mg_nil]
 have hx : rot F i m (m + 1) i = F m := by unfold rot; rw [if_pos (by omega)]; congr 1; omega
 rw [hx, mg_r1 (fun x hx => by
  obtain ⟨k, g1, g2, rfl⟩ := sg_mem.1 hx
  have : rot F i m (m + 1) k = F k := by unfold rot; rw [if_neg (by omega), if_neg (by omega)]
  rw [this]
  exact hl k g1 (by omega))]
 rw [sg_cut (rot F i m (m + 1)) (a := a) (m := i) (b := m + 1) h1 (by omega), sg_cut (rot F i m (m + 1)) (a := i) (m := i + 1) (b := m + 1) (by omega) (by omega), show i + 1 - i = 1 by omega, sg_one, hx, show m + 1 - (i + 1) = m - i by omega]
 simp
def Rs (lt : α → α → Bool) (F : Nat → α) (a b : Nat) : Prop := ∀ i j, a ≤ i → i < j → j < b → lt (F j) (F i) = false
theorem rs_sg {F : Nat → α} {a b : Nat} : Rs lt F a b ↔ Ri lt (sg F a (b - a)) := by
 unfold Ri sg
 rw [List.pairwise_map]
 constructor
 ·intro h
  refine List.pairwise_lt_range.imp_of_mem fun {i j} hi hj hij => ?_
  rw [List.mem_range] at hi hj
  exact h _ _ (by omega) (by omega) (by omega)
 ·intro h i j h1 h2 h3
  have := List.pairwise_iff_getElem.1 h (i - a) (j - a) (by simp; omega) (by simp; omega) (by omega)
  simp only [List.getElem_range] at this
  rw [show a + (i - a) = i by omega, show a + (j - a) = j by omega] at this
  exact this
theorem mgd_two {F G H : Nat → α} {a s m e b : Nat} (h1 : a ≤ s) (h2 : s ≤ m) (h3 : m ≤ e) (h4 : e ≤ b)
  (hl : ∀ k, m ≤ k → k < e → ∀ k', s ≤ k' → k' < m → lt (F k) (F k') = true) (hg : ∀ k', a ≤ k' → k' < s → ∀ k, e ≤ k → k < b → lt (F k) (F k') = false)
  (hG : Mgd lt (rot F s m e) a s (s + (e - m)) G) (hH : Mgd lt G (s + (e - m)) e b H) : Mgd lt F a m b H := by
 refine ⟨fun k hk => ?_, ?_⟩
 ·rw [hH.1 k (by omega), hG.1 k (by omega)]
  unfold rot; rw [if_neg (by omega), if_neg (by omega)]
 ·rw [rot_mg h1 h2 h3 h4 hl hg, sg_cut H (a := a) (m := s + (e - m)) (b := b) (by omega) (by omega)]
  have e1 : sg H a (s + (e - m) - a) = sg G a (s + (e - m) - a) := sg_congr fun i hi => hH.1 _ (by omega)
  have e2 : sg G (s + (e - m)) (e - (s + (e - m))) = sg (rot F s m e) (s + (e - m)) (m - s) := by
   rw [show e - (s + (e - m)) = m - s by omega]
   exact sg_congr fun i hi => hG.1 _ (by omega)
  have e3 : sg G e (b - e) = sg (rot F s m e) e (b - e) := sg_congr fun i hi => hG.1 _ (by omega)
  rw [e1, hG.2, hH.2, e2, e3, show s + (e - m) - s = e - m by omega]
theorem mgd_nl {F : Nat → α} {a b : Nat} : Mgd lt F a a b F := ⟨fun _ _ => rfl, by simp [sg_nil, mg]⟩
theorem mgd_nr {F : Nat → α} {a b : Nat} : Mgd lt F a b b F := ⟨fun _ _ => rfl, by simp [sg_nil, mg_nil]⟩
def Std (lt : α → α → Bool) (F : Nat → α) (a b : Nat) (G : Nat → α) : Prop := (∀ k, k < a ∨ b ≤ k → G k = F k) ∧ sg G a (b - a) = ss lt (sg F a (b - a))
theorem std_rs (h : Ok lt) {F G : Nat → α} {a b : Nat} (hs : Std lt F a b G) : Rs lt G a b := by
 rw [rs_sg, hs.2]; exact ss_ri h _
theorem std_1 {F : Nat → α} {a b : Nat} (h : b ≤ a + 1) : Std lt F a b F := ⟨fun _ _ => rfl, by
 rcases (by omega : b - a = 0 ∨ b - a = 1) with e | e <;> rw [e] <;> simp [sg, ss, mg]⟩
theorem std_s {F G H : Nat → α} {a m : Nat} (h : a ≤ m) (hs : Std lt F a m G) (hm : Mgd lt G a m (m + 1) H) : Std lt F a (m + 1) H := by
 refine ⟨fun k hk => by rw [hm.1 k (by omega), hs.1 k (by omega)], ?_⟩
 rw [hm.2, hs.2, sg_cut F h (Nat.le_succ m), show m + 1 - m = 1 by omega, sg_one, sg_one, hs.1 m (by omega), ss_snoc]
end
end Go.Proofs.YtbemaloaobeblaaGreatDoor

namespace Go.Proofs.YtbemaloaobeblaaGreatDoor
open Go.Op
abbrev bl := bytesLess
theorem u8_tri (a b : UInt8) : a < b ∨ a = b ∨ b < a := by
 rcases Nat.lt_trichotomy a.toNat b.toNat with h | h | h
 ·exact .inl h
 ·exact .inr (.inl (UInt8.toNat_inj.1 h))
 ·exact .inr (.inr h)
theorem bl_irr : ∀ a : List UInt8, bl a a = false
 | [] => rfl
 | x :: a => by simp [bl, bytesLess, show bytesLess a a = false from bl_irr a]
theorem bl_c {x y : UInt8} {a b : List UInt8} : bl (x :: a) (y :: b) = true ↔ x < y ∨ (x = y ∧ bl a b = true) := by
 simp [bl, bytesLess]
theorem bl_tr : ∀ a b c : List UInt8, bl a b = true → bl b c = true → bl a c = true
 | _, [], _, h, _ => by simp [bl, bytesLess] at h
 | _, _ :: _, [], _, h => by simp [bl, bytesLess] at h
 | [], _ :: _, _ :: _, _, _ => rfl
 | x :: a, y :: b, z :: c, h1, h2 => by
  rw [bl_c] at h1 h2 ⊢
  rcases h1 with h1 | ⟨rfl, h1⟩
  ·rcases h2 with h2 | ⟨rfl, h2⟩
   ·exact .inl (UInt8.lt_trans h1 h2)
   ·exact .inl h1
  ·rcases h2 with h2 | ⟨rfl, h2⟩
   ·exact .inl h2
   ·exact .inr ⟨rfl, bl_tr a b c h1 h2⟩
theorem bl_tot : ∀ a b : List UInt8, bl a b = true ∨ a = b ∨ bl b a = true
 | [], [] => .inr (.inl rfl)
 | [], _ :: _ => .inl rfl
 | _ :: _, [] => .inr (.inr rfl)
 | x :: a, y :: b => by
  rw [bl_c, bl_c]
  rcases u8_tri x y with h | rfl | h
  ·exact .inl (.inl h)
  ·rcases bl_tot a b with h | rfl | h
   ·exact .inl (.inr ⟨rfl, h⟩)
   ·exact .inr (.inl rfl)
   ·exact .inr (.inr (.inr ⟨rfl, h⟩))
  ·exact .inr (.inr (.inl h))
theorem bl_wk (a b c : List UInt8) (h : bl a b = true) : bl a c = true ∨ bl c b = true := by
 rcases bl_tot a c with h1 | rfl | h1
 ·exact .inl h1
 ·exact .inr h
 ·exact .inr (bl_tr _ _ _ h1 h)
theorem cmp_bl : ∀ a b : List UInt8, (Lib.compareBytes a b < 0 ↔ bl a b = true)
 | [], [] => by simp [Lib.compareBytes, bl, bytesLess]
 | [], _ :: _ => by simp [Lib.compareBytes, bl, bytesLess]
 | _ :: _, [] => by simp [Lib.compareBytes, bl, bytesLess]
 | x :: a, y :: b => by
  rw [bl_c, Lib.compareBytes]
  rcases u8_tri x y with h | rfl | h
  ·simp [h]
  ·have hx : ¬ x < x := UInt8.lt_irrefl x
   simp [hx, cmp_bl a b]
  ·have h2 : ¬ x < y := fun h2 => UInt8.lt_irrefl x (UInt8.lt_trans h2 h)
   have h3 : x ≠ y := fun e => by subst e; exact h2 h
   simp [h, h2, h3]
end Go.Proofs.YtbemaloaobeblaaGreatDoor

namespace Go.Proofs.YtbemaloaobeblaaGreatDoor
open Go.RowKit

theorem fd_drop {l : List (List UInt8 × T)} {i : Nat} {a : List UInt8 × T} {n : List UInt8} (ha : l[i]? = some a) : (l.drop i).find? (fun q => q.1 == n) = if a.1 = n then some a else (l.drop (i + 1)).find? (fun q => q.1 == n) := by
 obtain ⟨h1, e1⟩ := List.getElem?_eq_some_iff.1 ha
 rw [List.drop_eq_getElem_cons h1, e1, List.find?_cons]
 by_cases h : a.1 = n
 ·simp [h]
 ·rw [if_neg h]
  have : (a.1 == n) = false := by simpa using h
  rw [this]
def AnH (F : Nat → Prop) (w : World) (o : Option T) (e : Ending) (w' : World) : Prop :=
 ∃ c : Array Value, e = .returned (.tuple #[.agg c, .bool o.isSome]) ∧ Below w.heap.size w w' ∧ ((∃ t, o = some t ∧ VA F w' t c.toList) ∨ (o = none ∧ c = zV))
set_option maxHeartbeats 4000000 in
set_option maxRecDepth 100000 in
theorem get_r {F : Nat → Prop} {w : World} {k ki : Int} {s nm : List UInt8} {l : List T} {p : List (List UInt8 × T)} {c : List Value} (hb : p.length ≤ 1000000) (hv : VA F w (.mk k ki s l p) c) : Calls Tryz.prog 89 #[.agg c.toArray, .string (st nm)] w (AnH F w (getP k p nm)) := by
 cases hv with
 | @mk _ _ _ _ _ sl sp cl cp r1 r2 e1 e2 hl hp1 hp2 =>
  obtain ⟨pa, pc, rfl⟩ : ∃ va vc, sp = .slice va cp.length vc := by
   obtain ⟨_, ⟨a, cap, h1, h2⟩ | ⟨b, o, cap, cur, fz, h1, _⟩⟩ := r2
   ·exact ⟨a, cap, by rw [h1, h2]; rfl⟩
   ·exact ⟨_, cap, h1⟩
  obtain ⟨wb, hwb⟩ : ∃ wb, wb = (w.alloc (.cells #[.int .i64 k, .int .i64 ki, .string (st s), sl, .slice pa cp.length pc] 28)).alloc (.cells zV 28) := ⟨_, rfl⟩
  have hb0 : Below w.heap.size w wb := by rw [hwb]; exact blw_al ((Below.refl _ _).alloc (Nat.le_refl _) _) (by simp) _
  have hbx : wb.heap[w.heap.size]? = some (.cells #[.int .i64 k, .int .i64 ki, .string (st s), sl, .slice pa cp.length pc] 28 (0, 0)) := by
   rw [hwb]
   show ((w.heap.push _).push _)[w.heap.size]? = _
   rw [Array.getElem?_push, if_neg (by simp), Array.getElem?_push, if_pos rfl]
  have hby : wb.heap[w.heap.size + 1]? = some (.cells zV 28 (0, 0)) := by
   rw [hwb]
   show ((w.heap.push _).push _)[w.heap.size + 1]? = _
   rw [Array.getElem?_push, if_pos (by simp)]
  have hsb : wb.heap.size = w.heap.size + 2 := by rw [hwb]; simp
  have hcb : cp.length ≤ 1000000 := by omega
  unfold zV at hwb
  replace hb0 := hide1 hb0
  replace hbx := hide1 hbx
  replace hby := hide1 hby
  replace hsb := hide1 hsb
  replace e2 := hide1 e2
  have hG : Hid (getP k p nm = if k = 5 then (p.find? (fun q => q.1 == nm)).map (·.2) else none) := hide1 rfl
  generalize getP k p nm = E at *
  clear hb
  go_enter Tryz.func89, Tryz.ntmps89
  go_wp2_with fail
  rw [← hwb]
  clear hwb
  go_loopw [6] (fun x wr => ∃ i : Nat, x = .int .i64 (i : Nat) ∧ i ≤ cp.length ∧ wr = wb ∧ Hid ((p.drop i).find? (fun q => q.1 == nm) = p.find? (fun q => q.1 == nm))) (fun x _ => cp.length - (intOf x).toNat)
  case atStart => exact ⟨0, rfl, by omega, rfl, hide1 rfl⟩
  case round =>
   obtain ⟨i, rfl, hin, rfl, hme⟩ := hrel
   have hbr := hbx.out
   have hr4 := hby.out
   have c0 : wr.cell? ⟨w.heap.size, 0, none⟩ = some (.int .i64 k) := by simp only [World.cell?, hbr]; rfl
   have c4 : wr.cell? ⟨w.heap.size, 4, none⟩ = some (.slice pa cp.length pc) := by simp only [World.cell?, hbr]; rfl
   have hend : (i < cp.length → k ≠ 5) → Hid (AnH F w E (.returned (.tuple #[.agg zV, .bool false])) (wr.setRow (w.heap.size + 1) zV)) := fun h => hide1 (by
    have hE : E = none := by
     rw [hG.out]
     split
     ·rename_i h5
      have : ¬ i < cp.length := fun hh => h hh h5
      rw [← hme.out, List.drop_of_length_le (by have := e2.out; omega)]; rfl
     ·rfl
    rw [hE]
    exact ⟨zV, rfl, blw_own hb0.out (by omega) _, .inr ⟨rfl, rfl⟩⟩)
   have hz := setRow_heap wr (w.heap.size + 1) _ zV _ _ hr4
   unfold zV at hend hz
   by_cases hlt : i < cp.length
   ·by_cases hk5 : k = 5
    ·subst hk5
     obtain ⟨x, hx⟩ : ∃ x, cp[i]? = some x := ⟨_, List.getElem?_eq_getElem hlt⟩
     obtain ⟨u, hu⟩ : ∃ u, p[i]? = some u := ⟨_, List.getElem?_eq_getElem (by have := e2.out; omega)⟩
     have hxn := hp1 i u x hu hx
     have hxu := hp2 i u x hu hx
     obtain ⟨b, o, cap, hve, -, hbl, hr⟩ := r2.at hx
     have hva : pa = some ⟨b, o, none⟩ := by cases hve; rfl
     subst hva
     obtain ⟨x0, x1, x2, x3, x4, x5, rfl⟩ := arr6 (r2.1 x (List.mem_of_getElem? hx))
     simp only [List.head?_cons, Option.some.injEq] at hxn
     subst hxn
     have hms := fd_drop (n := nm) hu
     rw [hme.out] at hms
     have hc : wr.cell? ⟨b, o + i * 6, none⟩ = some (.string (st u.1)) := by
      rw [World.cell?_of_block (w := w) (hb0.out.block b hbl)]
      exact hr 0 _ rfl
     have hr2 : wr.rangeAt b (o + i * 6 + 1) [x1, x2, x3, x4, x5] := fun q v hj => by
      rw [World.cell?_of_block (w := w) (hb0.out.block b hbl)]
      have := hr (q + 1) v (by simpa using hj)
      rw [show o + i * 6 + 1 + q = o + i * 6 + (q + 1) by omega]
      exact this
     have hs1 := st_eq u.1 nm
     by_cases hn : u.1 = nm
     ·have hq : ((st u.1).toList == (st nm).toList) = true := by rw [hs1]; exact decide_eq_true hn
      have ha : Hid (AnH F w E (.returned (.tuple #[.agg #[x1, x2, x3, x4, x5], .bool true])) (wr.setRow (w.heap.size + 1) #[x1, x2, x3, x4, x5])) := hide1 (by
       have hE : E = some u.2 := by rw [hG.out, if_pos rfl, hms, if_pos hn]; rfl
       rw [hE]
       refine ⟨_, rfl, blw_own hb0.out (by omega) _, .inl ⟨_, rfl, VA.frame (c := [x1, x2, x3, x4, x5]) hxu (fun j _ hj => ?_) (fun _ h _ => h)⟩⟩
       exact (setRow_other wr _ j _ (by omega)).trans (hb0.out.block j hj))
      have hz2 := hide1 (setRow_heap wr (w.heap.size + 1) _ #[x1, x2, x3, x4, x5] _ _ hr4)
      have ho := hide1 (show (#[x1, x2, x3, x4, x5].all fun x => x.oneCell') = true by simpa using VA.one (c := [x1, x2, x3, x4, x5]) hxu)
      clear hms hs1 hme hxu hr hz hend hve hx hu hn
      go_wp2_with (first
       | refine wpList_load_mid rfl 28 (.tmp 31) rfl b (o + i * 6 + 1) rfl [x1, x2, x3, x4, x5] _ hr2 Tryz.underlying28 rfl (by kernel_rfl) ?_
       | refine wpList_store_row rfl Vt (.tmp 4) (.tmp 32) rfl (w.heap.size + 1) #[x1, x2, x3, x4, x5] rfl rfl Vt _ hr4 (by kernel_rfl) rfl ho.out ?_)
      refine bodyPost_ret (results_vt rfl _ rfl rfl hz2.out) rfl ?_
      exact ha.out
     ·have hq : ((st u.1).toList == (st nm).toList) = false := by rw [hs1]; exact decide_eq_false hn
      rw [if_neg hn] at hms
      replace hms := hide1 hms
      clear hs1 hme hxu hr hz hend hve hx hu hn hr2
      go_wp2
      go_roundw
      case rel => exact ⟨i + 1, rfl, by omega, trivial, hide1 hms.out.symm⟩
      case measure => simp [intOf]; omega
    ·have hk : (k == 5) = false := by simpa using hk5
     replace hend := hend fun _ => hk5
     replace hz := hide1 hz
     clear hme
     go_wp2_with (refine wpList_store_row rfl Vt (.tmp 4) (.tmp 33) rfl (w.heap.size + 1) #[.int .i64 0, .int .i64 0, .string ⟨#[]⟩, .slice none 0 0, .slice none 0 0] rfl rfl Vt _ hr4 (by kernel_rfl) rfl (by kernel_rfl) ?_)
     refine bodyPost_ret (results_vt rfl _ rfl rfl hz.out) rfl ?_
     exact hend.out
   ·replace hend := hend fun h => absurd h hlt
    have hie : i = cp.length := by omega
    subst hie
    replace hz := hide1 hz
    clear hme hlt
    go_wp2_with (refine wpList_store_row rfl Vt (.tmp 4) (.tmp 33) rfl (w.heap.size + 1) #[.int .i64 0, .int .i64 0, .string ⟨#[]⟩, .slice none 0 0, .slice none 0 0] rfl rfl Vt _ hr4 (by kernel_rfl) rfl (by kernel_rfl) ?_)
    refine bodyPost_ret (results_vt rfl _ rfl rfl hz.out) rfl ?_
    exact hend.out
end Go.Proofs.YtbemaloaobeblaaGreatDoor

namespace Go.Proofs.YtbemaloaobeblaaGreatDoor
open Go.ChangeShapes Go.WideShapes Go.ChangeAt Go.RowKit

section
variable {H : Type} {enc : TypeId × Value → H} {W : World} {held : Bool}
theorem five_l {α : Type} : ∀ {l : List α}, l.length = 5 → ∃ a b c d e, l = [a, b, c, d, e]
 | [a, b, c, d, e], _ => ⟨a, b, c, d, e, rfl⟩
def sbd : Nat → T → Prop
 | 0, _ => True
 | n + 1, .mk _ _ s l p => s.length ≤ 9223372036854775807 ∧ (∀ t ∈ l, sbd n t) ∧ ∀ q ∈ p, q.1.length ≤ 9223372036854775807 ∧ sbd n q.2
end
end Go.Proofs.YtbemaloaobeblaaGreatDoor

namespace Go.Proofs.YtbemaloaobeblaaGreatDoor
open Go.Shelf
def lays196_ren : Go.Shelf.Ren := ⟨fun | 196 => 55 | 259 => 91 | n => n, fun | 9 => 9 | 4 => 4 | 3 => 3 | 5 => 5 | 12 => 12 | 119 => 99 | 0 => 0 | 46 => 103 | 139 => 102 | 138 => 101 | 53 => 125 | n => n, fun | 3 => 0 | 4 => 1 | n => n⟩
theorem lays196 : Go.Proofs.Lays.n196 Tryz.prog lays196_ren := {
 mixed := by kernel_rfl
 f196 := Tryz.func55.trans (congrArg some (by kernel_rfl))
 f259 := Tryz.func91.trans (congrArg some (by kernel_rfl))
 t0 := Tryz.underlying0
 a0 := Tryz.isAgg0
 z0 := Tryz.sizeOf0
 v0 := Tryz.zeroValue0
 t3 := Tryz.underlying3
 a3 := Tryz.isAgg3
 z3 := Tryz.sizeOf3
 v3 := Tryz.zeroValue3
 t4 := Tryz.underlying4
 a4 := Tryz.isAgg4
 z4 := Tryz.sizeOf4
 v4 := Tryz.zeroValue4
 t5 := Tryz.underlying5
 a5 := Tryz.isAgg5
 z5 := Tryz.sizeOf5
 v5 := Tryz.zeroValue5
 t9 := Tryz.underlying9
 a9 := Tryz.isAgg9
 z9 := Tryz.sizeOf9
 v9 := Tryz.zeroValue9
 t12 := Tryz.underlying12
 a12 := Tryz.isAgg12
 z12 := Tryz.sizeOf12
 v12 := Tryz.zeroValue12
 t46 := Tryz.underlying103
 a46 := Tryz.isAgg103
 z46 := Tryz.sizeOf103
 v46 := Tryz.zeroValue103
 t53 := Tryz.underlying125
 a53 := Tryz.isAgg125
 z53 := Tryz.sizeOf125
 v53 := Tryz.zeroValue125
 t119 := Tryz.underlying99
 a119 := Tryz.isAgg99
 z119 := Tryz.sizeOf99
 t138 := Tryz.underlying101
 a138 := Tryz.isAgg101
 z138 := Tryz.sizeOf101
 v138 := Tryz.zeroValue101
 t139 := Tryz.underlying102
 a139 := Tryz.isAgg102
 z139 := Tryz.sizeOf102
 v139 := Tryz.zeroValue102
 g3 := by kernel_rfl
 g4 := by kernel_rfl }
open Go.RowKit Go.Lib in
theorem utf8_ValidString (s : ByteArray) (w : World) (hs : s.size ≤ 9223372036854775807) (hT : Lib.Utf8Tabs 0 1 w) :
  Calls Tryz.prog 55 #[.string s] w fun e w' => e = .returned (.bool (Lib.validD s.data.toList)) ∧ Below w.heap.size w w' := Any.utf8_ValidString lays196 s w hs hT
def lays260_ren : Go.Shelf.Ren := ⟨fun | 260 => 143 | n => n, fun | 9 => 9 | 21 => 21 | 3 => 3 | 4 => 4 | 5 => 5 | 119 => 99 | 0 => 0 | 46 => 103 | 139 => 102 | 138 => 101 | n => n, fun | 3 => 0 | 4 => 1 | n => n⟩
theorem lays260 : Go.Proofs.Lays.n260 Tryz.prog lays260_ren := {
 mixed := by kernel_rfl
 f260 := Tryz.func143.trans (congrArg some (by kernel_rfl))
 t0 := Tryz.underlying0
 a0 := Tryz.isAgg0
 z0 := Tryz.sizeOf0
 v0 := Tryz.zeroValue0
 t3 := Tryz.underlying3
 a3 := Tryz.isAgg3
 z3 := Tryz.sizeOf3
 v3 := Tryz.zeroValue3
 t4 := Tryz.underlying4
 a4 := Tryz.isAgg4
 z4 := Tryz.sizeOf4
 v4 := Tryz.zeroValue4
 t5 := Tryz.underlying5
 a5 := Tryz.isAgg5
 z5 := Tryz.sizeOf5
 v5 := Tryz.zeroValue5
 t9 := Tryz.underlying9
 a9 := Tryz.isAgg9
 z9 := Tryz.sizeOf9
 v9 := Tryz.zeroValue9
 t21 := Tryz.underlying21
 a21 := Tryz.isAgg21
 z21 := Tryz.sizeOf21
 v21 := Tryz.zeroValue21
 t46 := Tryz.underlying103
 a46 := Tryz.isAgg103
 z46 := Tryz.sizeOf103
 v46 := Tryz.zeroValue103
 t119 := Tryz.underlying99
 a119 := Tryz.isAgg99
 z119 := Tryz.sizeOf99
 t138 := Tryz.underlying101
 a138 := Tryz.isAgg101
 z138 := Tryz.sizeOf101
 v138 := Tryz.zeroValue101
 t139 := Tryz.underlying102
 a139 := Tryz.isAgg102
 z139 := Tryz.sizeOf102
 v139 := Tryz.zeroValue102
 g3 := by kernel_rfl
 g4 := by kernel_rfl }
end Go.Proofs.YtbemaloaobeblaaGreatDoor

namespace Go.Proofs.YtbemaloaobeblaaGreatDoor
open Go.RowKit

def spB (k i : Int) (s : List UInt8) (nl np : Nat) : Bool :=
 decide (i ≠ 0 ∧ k ≠ 1 ∧ k ≠ 2) || decide (s ≠ [] ∧ k ≠ 3) || decide (0 < nl ∧ k ≠ 4) || decide (0 < np ∧ k ≠ 5)
theorem spB_1 {k i : Int} {s : List UInt8} {nl np : Nat} (h : i ≠ 0 ∧ k ≠ 1 ∧ k ≠ 2) : spB k i s nl np = true := by unfold spB; rw [decide_eq_true h]; simp only [Bool.true_or]
theorem spB_2 {k i : Int} {s : List UInt8} {nl np : Nat} (h : s ≠ [] ∧ k ≠ 3) : spB k i s nl np = true := by unfold spB; rw [decide_eq_true h]; simp only [Bool.true_or, Bool.or_true]
theorem spB_3 {k i : Int} {s : List UInt8} {nl np : Nat} (h : 0 < nl ∧ k ≠ 4) : spB k i s nl np = true := by unfold spB; rw [decide_eq_true h]; simp only [Bool.true_or, Bool.or_true]
theorem spB_4 {k i : Int} {s : List UInt8} {nl np : Nat} (h : 0 < np ∧ k ≠ 5) : spB k i s nl np = true := by unfold spB; rw [decide_eq_true h]; simp only [Bool.or_true]
theorem spB_f {k i : Int} {s : List UInt8} {nl np : Nat} (h1 : ¬ (i ≠ 0 ∧ k ≠ 1 ∧ k ≠ 2)) (h2 : ¬ (s ≠ [] ∧ k ≠ 3)) (h3 : ¬ (0 < nl ∧ k ≠ 4)) (h4 : ¬ (0 < np ∧ k ≠ 5)) : spB k i s nl np = false := by unfold spB; rw [decide_eq_false h1, decide_eq_false h2, decide_eq_false h3, decide_eq_false h4]; rfl
def inR (n : Int) : Bool := decide (-9007199254740991 ≤ n ∧ n ≤ 9007199254740991)
def gd : Nat → T → Bool
 | n, .mk k i s l p => !spB k i s l.length p.length && (
  if k = 0 then true else if k = 1 then decide (i = 0 ∨ i = 1) else if k = 2 then inR i else if k = 3 then Lib.validD s
  else if k = 4 then (match n with
   | 0 => false
   | n + 1 => l.all (gd n))
  else if k = 5 then (match n with
   | 0 => false
   | n + 1 => p.all (fun q => Lib.validD q.1 && gd n q.2) && onc (p.map (·.1)))
  else false)
theorem rng_d {n : Int} {w : World} : Calls Tryz.prog 54 #[.int .i64 n] w fun e w' => e = .returned (.bool (inR n)) ∧ w' = w := by
 by_cases h1 : -9007199254740991 ≤ n
 ·by_cases h2 : n ≤ 9007199254740991
  ·have e : inR n = true := decide_eq_true ⟨h1, h2⟩
   rw [e]
   have d1 : decide ((-9007199254740991 : Int) ≤ n) = true := decide_eq_true h1
   have d2 : decide (n ≤ 9007199254740991) = true := decide_eq_true h2
   go_enter Tryz.func54, Tryz.ntmps54
   go_wp2
   go_ret
   exact ⟨rfl, rfl⟩
  ·have e : inR n = false := decide_eq_false fun h => h2 h.2
   rw [e]
   have d1 : decide ((-9007199254740991 : Int) ≤ n) = true := decide_eq_true h1
   have d2 : decide (n ≤ 9007199254740991) = false := decide_eq_false h2
   go_enter Tryz.func54, Tryz.ntmps54
   go_wp2
   go_ret
   exact ⟨rfl, rfl⟩
 ·have e : inR n = false := decide_eq_false fun h => h1 h.1
  rw [e]
  have d1 : decide ((-9007199254740991 : Int) ≤ n) = false := decide_eq_false h1
  go_enter Tryz.func54, Tryz.ntmps54
  go_wp2
  go_ret
  exact ⟨rfl, rfl⟩
theorem RwA.slc {F : Nat → Prop} {w : World} {e : TypeId} {z : Nat} {v : Value} {cs : List (List Value)} (h : RwA F w e z v cs) : ∃ a cap, v = .slice a cs.length cap := by
 obtain ⟨_, ⟨a, cap, h1, h2⟩ | ⟨b, o, cap, cur, fz, h1, _⟩⟩ := h
 ·exact ⟨a, cap, by rw [h1, h2]; rfl⟩
 ·exact ⟨_, cap, h1⟩
theorem st_no {s : List UInt8} : (st s).toList = [] ↔ s = [] := by
 have h := st_eq s []
 have e : (st []).toList = [] := by kernel_rfl
 rw [e] at h
 by_cases hs : s = []
 ·subst hs; simp [e]
 ·rw [decide_eq_false hs] at h
  simp only [hs, iff_false]
  intro h2
  rw [h2] at h
  cases h
theorem kinds (k : Int) : k = 1 ∨ k = 2 ∨ k = 3 ∨ k = 4 ∨ k = 5 ∨ (k ≠ 1 ∧ k ≠ 2 ∧ k ≠ 3 ∧ k ≠ 4 ∧ k ≠ 5) := by omega
set_option maxHeartbeats 8000000 in
set_option maxRecDepth 100000 in
theorem spare_1 {i : Int} {s : List UInt8} {sa pa : Option Addr} {nl np sc pc : Nat} {w : World} : Calls Tryz.prog 53 #[.agg #[.int .i64 1, .int .i64 i, .string (st s), .slice sa nl sc, .slice pa np pc]] w fun e w' => e = .returned (.bool (spB 1 i s nl np)) ∧ Below w.heap.size w w' := by
 obtain ⟨B, hB⟩ : ∃ B, Hid (B = spB 1 i s nl np) := ⟨_, hide1 rfl⟩
 rw [← hB.out]
 have hbl : Hid (Below w.heap.size w (w.alloc (.cells #[.int .i64 (1), .int .i64 i, .string (st s), .slice sa nl sc, .slice pa np pc] 28))) := hide1 ((Below.refl _ _).alloc (Nat.le_refl _) _)
 by_cases hi : i = 0
 ·have di : (i != 0) = false := by simpa using hi
  by_cases hs : s = []
  ·have ds : (st s).toList = [] := st_no.2 hs
   by_cases hl : nl = 0
   ·have dl : ¬ 0 < nl := by omega
    by_cases hp : np = 0
    ·have dp : ¬ 0 < np := by omega
     have hE : Hid (B = false) := hide1 (hB.out.trans (spB_f (by omega) (fun h => h.1 hs) (by omega) (by omega)))
     clear hB hi hs hl hp
     go_enter Tryz.func53, Tryz.ntmps53
     go_wp2
     go_ret
     exact ⟨by rw [hE.out]; rfl, hbl.out⟩
    ·have dp : 0 < np := by omega
     have hE : Hid (B = true) := hide1 (hB.out.trans (spB_4 ⟨by omega, by omega⟩))
     clear hB hi hs hl hp
     go_enter Tryz.func53, Tryz.ntmps53
     go_wp2
     go_ret
     exact ⟨by rw [hE.out]; rfl, hbl.out⟩
   ·have dl : 0 < nl := by omega
    have hE : Hid (B = true) := hide1 (hB.out.trans (spB_3 ⟨by omega, by omega⟩))
    clear hB hi hs hl
    go_enter Tryz.func53, Tryz.ntmps53
    go_wp2
    go_ret
    exact ⟨by rw [hE.out]; rfl, hbl.out⟩
  ·have ds : ¬ (st s).toList = [] := fun h => hs (st_no.1 h)
   have hE : Hid (B = true) := hide1 (hB.out.trans (spB_2 ⟨hs, by omega⟩))
   clear hB hi hs
   go_enter Tryz.func53, Tryz.ntmps53
   go_wp2
   go_ret
   exact ⟨by rw [hE.out]; rfl, hbl.out⟩
 ·have di : (i != 0) = true := by simpa using hi
  by_cases hs : s = []
  ·have ds : (st s).toList = [] := st_no.2 hs
   by_cases hl : nl = 0
   ·have dl : ¬ 0 < nl := by omega
    by_cases hp : np = 0
    ·have dp : ¬ 0 < np := by omega
     have hE : Hid (B = false) := hide1 (hB.out.trans (spB_f (by omega) (fun h => h.1 hs) (by omega) (by omega)))
     clear hB hi hs hl hp
     go_enter Tryz.func53, Tryz.ntmps53
     go_wp2
     go_ret
     exact ⟨by rw [hE.out]; rfl, hbl.out⟩
    ·have dp : 0 < np := by omega
     have hE : Hid (B = true) := hide1 (hB.out.trans (spB_4 ⟨by omega, by omega⟩))
     clear hB hi hs hl hp
     go_enter Tryz.func53, Tryz.ntmps53
     go_wp2
     go_ret
     exact ⟨by rw [hE.out]; rfl, hbl.out⟩
   ·have dl : 0 < nl := by omega
    have hE : Hid (B = true) := hide1 (hB.out.trans (spB_3 ⟨by omega, by omega⟩))
    clear hB hi hs hl
    go_enter Tryz.func53, Tryz.ntmps53
    go_wp2
    go_ret
    exact ⟨by rw [hE.out]; rfl, hbl.out⟩
  ·have ds : ¬ (st s).toList = [] := fun h => hs (st_no.1 h)
   have hE : Hid (B = true) := hide1 (hB.out.trans (spB_2 ⟨hs, by omega⟩))
   clear hB hi hs
   go_enter Tryz.func53, Tryz.ntmps53
   go_wp2
   go_ret
   exact ⟨by rw [hE.out]; rfl, hbl.out⟩
set_option maxHeartbeats 8000000 in
set_option maxRecDepth 100000 in
theorem spare_2 {i : Int} {s : List UInt8} {sa pa : Option Addr} {nl np sc pc : Nat} {w : World} : Calls Tryz.prog 53 #[.agg #[.int .i64 2, .int .i64 i, .string (st s), .slice sa nl sc, .slice pa np pc]] w fun e w' => e = .returned (.bool (spB 2 i s nl np)) ∧ Below w.heap.size w w' := by
 obtain ⟨B, hB⟩ : ∃ B, Hid (B = spB 2 i s nl np) := ⟨_, hide1 rfl⟩
 rw [← hB.out]
 have hbl : Hid (Below w.heap.size w (w.alloc (.cells #[.int .i64 (2), .int .i64 i, .string (st s), .slice sa nl sc, .slice pa np pc] 28))) := hide1 ((Below.refl _ _).alloc (Nat.le_refl _) _)
 by_cases hi : i = 0
 ·have di : (i != 0) = false := by simpa using hi
  by_cases hs : s = []
  ·have ds : (st s).toList = [] := st_no.2 hs
   by_cases hl : nl = 0
   ·have dl : ¬ 0 < nl := by omega
    by_cases hp : np = 0
    ·have dp : ¬ 0 < np := by omega
     have hE : Hid (B = false) := hide1 (hB.out.trans (spB_f (by omega) (fun h => h.1 hs) (by omega) (by omega)))
     clear hB hi hs hl hp
     go_enter Tryz.func53, Tryz.ntmps53
     go_wp2
     go_ret
     exact ⟨by rw [hE.out]; rfl, hbl.out⟩
    ·have dp : 0 < np := by omega
     have hE : Hid (B = true) := hide1 (hB.out.trans (spB_4 ⟨by omega, by omega⟩))
     clear hB hi hs hl hp
     go_enter Tryz.func53, Tryz.ntmps53
     go_wp2
     go_ret
     exact ⟨by rw [hE.out]; rfl, hbl.out⟩
   ·have dl : 0 < nl := by omega
    have hE : Hid (B = true) := hide1 (hB.out.trans (spB_3 ⟨by omega, by omega⟩))
    clear hB hi hs hl
    go_enter Tryz.func53, Tryz.ntmps53
    go_wp2
    go_ret
    exact ⟨by rw [hE.out]; rfl, hbl.out⟩
  ·have ds : ¬ (st s).toList = [] := fun h => hs (st_no.1 h)
   have hE : Hid (B = true) := hide1 (hB.out.trans (spB_2 ⟨hs, by omega⟩))
   clear hB hi hs
   go_enter Tryz.func53, Tryz.ntmps53
   go_wp2
   go_ret
   exact ⟨by rw [hE.out]; rfl, hbl.out⟩
 ·have di : (i != 0) = true := by simpa using hi
  by_cases hs : s = []
  ·have ds : (st s).toList = [] := st_no.2 hs
   by_cases hl : nl = 0
   ·have dl : ¬ 0 < nl := by omega
    by_cases hp : np = 0
    ·have dp : ¬ 0 < np := by omega
     have hE : Hid (B = false) := hide1 (hB.out.trans (spB_f (by omega) (fun h => h.1 hs) (by omega) (by omega)))
     clear hB hi hs hl hp
     go_enter Tryz.func53, Tryz.ntmps53
     go_wp2
     go_ret
     exact ⟨by rw [hE.out]; rfl, hbl.out⟩
    ·have dp : 0 < np := by omega
     have hE : Hid (B = true) := hide1 (hB.out.trans (spB_4 ⟨by omega, by omega⟩))
     clear hB hi hs hl hp
     go_enter Tryz.func53, Tryz.ntmps53
     go_wp2
     go_ret
     exact ⟨by rw [hE.out]; rfl, hbl.out⟩
   ·have dl : 0 < nl := by omega
    have hE : Hid (B = true) := hide1 (hB.out.trans (spB_3 ⟨by omega, by omega⟩))
    clear hB hi hs hl
    go_enter Tryz.func53, Tryz.ntmps53
    go_wp2
    go_ret
    exact ⟨by rw [hE.out]; rfl, hbl.out⟩
  ·have ds : ¬ (st s).toList = [] := fun h => hs (st_no.1 h)
   have hE : Hid (B = true) := hide1 (hB.out.trans (spB_2 ⟨hs, by omega⟩))
   clear hB hi hs
   go_enter Tryz.func53, Tryz.ntmps53
   go_wp2
   go_ret
   exact ⟨by rw [hE.out]; rfl, hbl.out⟩
set_option maxHeartbeats 8000000 in
set_option maxRecDepth 100000 in
theorem spare_3 {i : Int} {s : List UInt8} {sa pa : Option Addr} {nl np sc pc : Nat} {w : World} : Calls Tryz.prog 53 #[.agg #[.int .i64 3, .int .i64 i, .string (st s), .slice sa nl sc, .slice pa np pc]] w fun e w' => e = .returned (.bool (spB 3 i s nl np)) ∧ Below w.heap.size w w' := by
 obtain ⟨B, hB⟩ : ∃ B, Hid (B = spB 3 i s nl np) := ⟨_, hide1 rfl⟩
 rw [← hB.out]
 have hbl : Hid (Below w.heap.size w (w.alloc (.cells #[.int .i64 (3), .int .i64 i, .string (st s), .slice sa nl sc, .slice pa np pc] 28))) := hide1 ((Below.refl _ _).alloc (Nat.le_refl _) _)
 by_cases hi : i = 0
 ·have di : (i != 0) = false := by simpa using hi
  by_cases hs : s = []
  ·have ds : (st s).toList = [] := st_no.2 hs
   by_cases hl : nl = 0
   ·have dl : ¬ 0 < nl := by omega
    by_cases hp : np = 0
    ·have dp : ¬ 0 < np := by omega
     have hE : Hid (B = false) := hide1 (hB.out.trans (spB_f (by omega) (fun h => h.1 hs) (by omega) (by omega)))
     clear hB hi hs hl hp
     go_enter Tryz.func53, Tryz.ntmps53
     go_wp2
     go_ret
     exact ⟨by rw [hE.out]; rfl, hbl.out⟩
    ·have dp : 0 < np := by omega
     have hE : Hid (B = true) := hide1 (hB.out.trans (spB_4 ⟨by omega, by omega⟩))
     clear hB hi hs hl hp
     go_enter Tryz.func53, Tryz.ntmps53
     go_wp2
     go_ret
     exact ⟨by rw [hE.out]; rfl, hbl.out⟩
   ·have dl : 0 < nl := by omega
    have hE : Hid (B = true) := hide1 (hB.out.trans (spB_3 ⟨by omega, by omega⟩))
    clear hB hi hs hl
    go_enter Tryz.func53, Tryz.ntmps53
    go_wp2
    go_ret
    exact ⟨by rw [hE.out]; rfl, hbl.out⟩
  ·have ds : ¬ (st s).toList = [] := fun h => hs (st_no.1 h)
   by_cases hl : nl = 0
   ·have dl : ¬ 0 < nl := by omega
    by_cases hp : np = 0
    ·have dp : ¬ 0 < np := by omega
     have hE : Hid (B = false) := hide1 (hB.out.trans (spB_f (by omega) (fun h => h.2 rfl) (by omega) (by omega)))
     clear hB hi hs hl hp
     go_enter Tryz.func53, Tryz.ntmps53
     go_wp2
     go_ret
     exact ⟨by rw [hE.out]; rfl, hbl.out⟩
    ·have dp : 0 < np := by omega
     have hE : Hid (B = true) := hide1 (hB.out.trans (spB_4 ⟨by omega, by omega⟩))
     clear hB hi hs hl hp
     go_enter Tryz.func53, Tryz.ntmps53
     go_wp2
     go_ret
     exact ⟨by rw [hE.out]; rfl, hbl.out⟩
   ·have dl : 0 < nl := by omega
    have hE : Hid (B = true) := hide1 (hB.out.trans (spB_3 ⟨by omega, by omega⟩))
    clear hB hi hs hl
    go_enter Tryz.func53, Tryz.ntmps53
    go_wp2
    go_ret
    exact ⟨by rw [hE.out]; rfl, hbl.out⟩
 ·have di : (i != 0) = true := by simpa using hi
  have hE : Hid (B = true) := hide1 (hB.out.trans (spB_1 ⟨hi, by omega, by omega⟩))
  clear hB hi
  go_enter Tryz.func53, Tryz.ntmps53
  go_wp2
  go_ret
  exact ⟨by rw [hE.out]; rfl, hbl.out⟩
set_option maxHeartbeats 8000000 in
set_option maxRecDepth 100000 in
theorem spare_4 {i : Int} {s : List UInt8} {sa pa : Option Addr} {nl np sc pc : Nat} {w : World} : Calls Tryz.prog 53 #[.agg #[.int .i64 4, .int .i64 i, .string (st s), .slice sa nl sc, .slice pa np pc]] w fun e w' => e = .returned (.bool (spB 4 i s nl np)) ∧ Below w.heap.size w w' := by
 obtain ⟨B, hB⟩ : ∃ B, Hid (B = spB 4 i s nl np) := ⟨_, hide1 rfl⟩
 rw [← hB.out]
 have hbl : Hid (Below w.heap.size w (w.alloc (.cells #[.int .i64 (4), .int .i64 i, .string (st s), .slice sa nl sc, .slice pa np pc] 28))) := hide1 ((Below.refl _ _).alloc (Nat.le_refl _) _)
 by_cases hi : i = 0
 ·have di : (i != 0) = false := by simpa using hi
  by_cases hs : s = []
  ·have ds : (st s).toList = [] := st_no.2 hs
   by_cases hl : nl = 0
   ·have dl : ¬ 0 < nl := by omega
    by_cases hp : np = 0
    ·have dp : ¬ 0 < np := by omega
     have hE : Hid (B = false) := hide1 (hB.out.trans (spB_f (by omega) (fun h => h.1 hs) (by omega) (by omega)))
     clear hB hi hs hl hp
     go_enter Tryz.func53, Tryz.ntmps53
     go_wp2
     go_ret
     exact ⟨by rw [hE.out]; rfl, hbl.out⟩
    ·have dp : 0 < np := by omega
     have hE : Hid (B = true) := hide1 (hB.out.trans (spB_4 ⟨by omega, by omega⟩))
     clear hB hi hs hl hp
     go_enter Tryz.func53, Tryz.ntmps53
     go_wp2
     go_ret
     exact ⟨by rw [hE.out]; rfl, hbl.out⟩
   ·have dl : 0 < nl := by omega
    by_cases hp : np = 0
    ·have dp : ¬ 0 < np := by omega
     have hE : Hid (B = false) := hide1 (hB.out.trans (spB_f (by omega) (fun h => h.1 hs) (by omega) (by omega)))
     clear hB hi hs hl hp
     go_enter Tryz.func53, Tryz.ntmps53
     go_wp2
     go_ret
     exact ⟨by rw [hE.out]; rfl, hbl.out⟩
    ·have dp : 0 < np := by omega
     have hE : Hid (B = true) := hide1 (hB.out.trans (spB_4 ⟨by omega, by omega⟩))
     clear hB hi hs hl hp
     go_enter Tryz.func53, Tryz.ntmps53
     go_wp2
     go_ret
     exact ⟨by rw [hE.out]; rfl, hbl.out⟩
  ·have ds : ¬ (st s).toList = [] := fun h => hs (st_no.1 h)
   have hE : Hid (B = true) := hide1 (hB.out.trans (spB_2 ⟨hs, by omega⟩))
   clear hB hi hs
   go_enter Tryz.func53, Tryz.ntmps53
   go_wp2
   go_ret
   exact ⟨by rw [hE.out]; rfl, hbl.out⟩
 ·have di : (i != 0) = true := by simpa using hi
  have hE : Hid (B = true) := hide1 (hB.out.trans (spB_1 ⟨hi, by omega, by omega⟩))
  clear hB hi
  go_enter Tryz.func53, Tryz.ntmps53
  go_wp2
  go_ret
  exact ⟨by rw [hE.out]; rfl, hbl.out⟩
set_option maxHeartbeats 8000000 in
set_option maxRecDepth 100000 in
theorem spare_5 {i : Int} {s : List UInt8} {sa pa : Option Addr} {nl np sc pc : Nat} {w : World} : Calls Tryz.prog 53 #[.agg #[.int .i64 5, .int .i64 i, .string (st s), .slice sa nl sc, .slice pa np pc]] w fun e w' => e = .returned (.bool (spB 5 i s nl np)) ∧ Below w.heap.size w w' := by
 obtain ⟨B, hB⟩ : ∃ B, Hid (B = spB 5 i s nl np) := ⟨_, hide1 rfl⟩
 rw [← hB.out]
 have hbl : Hid (Below w.heap.size w (w.alloc (.cells #[.int .i64 (5), .int .i64 i, .string (st s), .slice sa nl sc, .slice pa np pc] 28))) := hide1 ((Below.refl _ _).alloc (Nat.le_refl _) _)
 by_cases hi : i = 0
 ·have di : (i != 0) = false := by simpa using hi
  by_cases hs : s = []
  ·have ds : (st s).toList = [] := st_no.2 hs
   by_cases hl : nl = 0
   ·have dl : ¬ 0 < nl := by omega
    by_cases hp : np = 0
    ·have dp : ¬ 0 < np := by omega
     have hE : Hid (B = false) := hide1 (hB.out.trans (spB_f (by omega) (fun h => h.1 hs) (by omega) (by omega)))
     clear hB hi hs hl hp
     go_enter Tryz.func53, Tryz.ntmps53
     go_wp2
     go_ret
     exact ⟨by rw [hE.out]; rfl, hbl.out⟩
    ·have dp : 0 < np := by omega
     have hE : Hid (B = false) := hide1 (hB.out.trans (spB_f (by omega) (fun h => h.1 hs) (by omega) (by omega)))
     clear hB hi hs hl hp
     go_enter Tryz.func53, Tryz.ntmps53
     go_wp2
     go_ret
     exact ⟨by rw [hE.out]; rfl, hbl.out⟩
   ·have dl : 0 < nl := by omega
    have hE : Hid (B = true) := hide1 (hB.out.trans (spB_3 ⟨by omega, by omega⟩))
    clear hB hi hs hl
    go_enter Tryz.func53, Tryz.ntmps53
    go_wp2
    go_ret
    exact ⟨by rw [hE.out]; rfl, hbl.out⟩
  ·have ds : ¬ (st s).toList = [] := fun h => hs (st_no.1 h)
   have hE : Hid (B = true) := hide1 (hB.out.trans (spB_2 ⟨hs, by omega⟩))
   clear hB hi hs
   go_enter Tryz.func53, Tryz.ntmps53
   go_wp2
   go_ret
   exact ⟨by rw [hE.out]; rfl, hbl.out⟩
 ·have di : (i != 0) = true := by simpa using hi
  have hE : Hid (B = true) := hide1 (hB.out.trans (spB_1 ⟨hi, by omega, by omega⟩))
  clear hB hi
  go_enter Tryz.func53, Tryz.ntmps53
  go_wp2
  go_ret
  exact ⟨by rw [hE.out]; rfl, hbl.out⟩
set_option maxHeartbeats 8000000 in
set_option maxRecDepth 100000 in
theorem spare_o {k i : Int} {s : List UInt8} {sa pa : Option Addr} {nl np sc pc : Nat} {w : World} (k1 : k ≠ 1) (k2 : k ≠ 2) (k3 : k ≠ 3) (k4 : k ≠ 4) (k5 : k ≠ 5) : Calls Tryz.prog 53 #[.agg #[.int .i64 k, .int .i64 i, .string (st s), .slice sa nl sc, .slice pa np pc]] w fun e w' => e = .returned (.bool (spB k i s nl np)) ∧ Below w.heap.size w w' := by
 obtain ⟨B, hB⟩ : ∃ B, Hid (B = spB k i s nl np) := ⟨_, hide1 rfl⟩
 rw [← hB.out]
 have hbl : Hid (Below w.heap.size w (w.alloc (.cells #[.int .i64 k, .int .i64 i, .string (st s), .slice sa nl sc, .slice pa np pc] 28))) := hide1 ((Below.refl _ _).alloc (Nat.le_refl _) _)
 have d1 : (k != 1) = true := by simpa using k1
 have d2 : (k != 2) = true := by simpa using k2
 have d3 : (k != 3) = true := by simpa using k3
 have d4 : (k != 4) = true := by simpa using k4
 have d5 : (k != 5) = true := by simpa using k5
 by_cases hi : i = 0
 ·have di : (i != 0) = false := by simpa using hi
  by_cases hs : s = []
  ·have ds : (st s).toList = [] := st_no.2 hs
   by_cases hl : nl = 0
   ·have dl : ¬ 0 < nl := by omega
    by_cases hp : np = 0
    ·have dp : ¬ 0 < np := by omega
     have hE : Hid (B = false) := hide1 (hB.out.trans (spB_f (by omega) (fun h => h.1 hs) (by omega) (by omega)))
     clear hB hi hs hl hp
     go_enter Tryz.func53, Tryz.ntmps53
     go_wp2
     go_ret
     exact ⟨by rw [hE.out]; rfl, hbl.out⟩
    ·have dp : 0 < np := by omega
     have hE : Hid (B = true) := hide1 (hB.out.trans (spB_4 ⟨by omega, by omega⟩))
     clear hB hi hs hl hp
     go_enter Tryz.func53, Tryz.ntmps53
     go_wp2
     go_ret
     exact ⟨by rw [hE.out]; rfl, hbl.out⟩
   ·have dl : 0 < nl := by omega
    have hE : Hid (B = true) := hide1 (hB.out.trans (spB_3 ⟨by omega, by omega⟩))
    clear hB hi hs hl
    go_enter Tryz.func53, Tryz.ntmps53
    go_wp2
    go_ret
    exact ⟨by rw [hE.out]; rfl, hbl.out⟩
  ·have ds : ¬ (st s).toList = [] := fun h => hs (st_no.1 h)
   have hE : Hid (B = true) := hide1 (hB.out.trans (spB_2 ⟨hs, by omega⟩))
   clear hB hi hs
   go_enter Tryz.func53, Tryz.ntmps53
   go_wp2
   go_ret
   exact ⟨by rw [hE.out]; rfl, hbl.out⟩
 ·have di : (i != 0) = true := by simpa using hi
  have hE : Hid (B = true) := hide1 (hB.out.trans (spB_1 ⟨hi, by omega, by omega⟩))
  clear hB hi
  go_enter Tryz.func53, Tryz.ntmps53
  go_wp2
  go_ret
  exact ⟨by rw [hE.out]; rfl, hbl.out⟩
theorem spare_d {k i : Int} {s : List UInt8} {sa pa : Option Addr} {nl np sc pc : Nat} {w : World} : Calls Tryz.prog 53 #[.agg #[.int .i64 k, .int .i64 i, .string (st s), .slice sa nl sc, .slice pa np pc]] w fun e w' => e = .returned (.bool (spB k i s nl np)) ∧ Below w.heap.size w w' := by
 rcases kinds k with rfl | rfl | rfl | rfl | rfl | ⟨k1, k2, k3, k4, k5⟩
 ·exact spare_1
 ·exact spare_2
 ·exact spare_3
 ·exact spare_4
 ·exact spare_5
 ·exact spare_o k1 k2 k3 k4 k5
def AnI (w : World) (b : Bool) (e : Ending) (w' : World) : Prop := ∃ n : Int, e = .returned (.int .i64 n) ∧ (decide (n ≥ 0) = b) ∧ -1 ≤ n ∧ n ≤ 1000000 ∧ Below w.heap.size w w'
theorem any_take {f : T → Bool} {l : List T} {i : Nat} {u : T} (hu : l[i]? = some u) (h : (l.take i).any f = false) : (l.take (i + 1)).any f = f u := by
 rw [List.take_add_one, hu, List.any_append, h]
 simp
theorem any_of {f : T → Bool} {l : List T} {i : Nat} (h : (l.take i).any f = true) : l.any f = true := by
 rw [← List.take_append_drop i l, List.any_append, h]; rfl
set_option maxHeartbeats 8000000 in
set_option maxRecDepth 100000 in
theorem idx_d {K : Nat} {cap : Array Value} (he : ∀ args w, (callFunc K args).run Tryz.prog w = .ok (.enter K args) w) {f : T → Bool} {F : Nat → Prop} {w : World} {v : Value} {l : List T} {cl : List (List Value)} (r : RwA F w Vt 5 v cl) (hl : cl.length = l.length) (hb : cl.length ≤ 1000000)
  (hf : ∀ w', Below w.heap.size w w' → ∀ (j : Nat) (t : T) (c : List Value), l[j]? = some t → cl[j]? = some c → Calls Tryz.prog K (#[.agg c.toArray] ++ cap) w' fun e w2 => e = .returned (.bool (f t)) ∧ Below w'.heap.size w' w2) :
  Calls Tryz.prog 115 #[v, .func (.func K) #[] cap] w (AnI w (l.any f)) := by
 obtain ⟨sa, sc, rfl⟩ := r.slc
 replace r := hide1 r
 replace hf := hide1 hf
 replace hl := hide1 hl
 obtain ⟨B, hB⟩ : ∃ B, Hid (B = l.any f) := ⟨_, hide1 rfl⟩
 rw [← hB.out]
 go_enter Tryz.func115, Tryz.ntmps115
 go_wp2_with fail
 go_loopw [8] (fun x wr => ∃ i : Nat, x = .int .i64 (i : Nat) ∧ i ≤ cl.length ∧ Hid ((l.take i).any f = false) ∧ Hid (Below w.heap.size w wr)) (fun x _ => cl.length - (intOf x).toNat)
 case atStart => exact ⟨0, rfl, by omega, hide1 rfl, hide1 (Below.refl _ _)⟩
 case round =>
  obtain ⟨i, rfl, hin, hme, hbw⟩ := hrel
  by_cases hlt : i < cl.length
  ·obtain ⟨x, hx⟩ : ∃ x, cl[i]? = some x := ⟨_, List.getElem?_eq_getElem hlt⟩
   obtain ⟨u, hu⟩ : ∃ u, l[i]? = some u := ⟨_, List.getElem?_eq_getElem (by have := hl.out; omega)⟩
   obtain ⟨b, o, cap', hve, -, hbl, hr⟩ := r.out.at hx
   have hva : sa = some ⟨b, o, none⟩ := by cases hve; rfl
   subst hva
   have hx5 := r.out.1 x (List.mem_of_getElem? hx)
   obtain ⟨x0, x1, x2, x3, x4, rfl⟩ : ∃ x0 x1 x2 x3 x4, x = [x0, x1, x2, x3, x4] := by
    match x, hx5 with
    | [x0, x1, x2, x3, x4], _ => exact ⟨x0, x1, x2, x3, x4, rfl⟩
   have hr2 : wr.rangeAt b (o + i * 5) [x0, x1, x2, x3, x4] := fun j v hj => by
    rw [World.cell?_of_block (w := w) (hbw.out.block b hbl)]
    exact hr j v hj
   have hc := hf.out wr hbw.out i u _ hu hx
   have hms := hide1 (any_take hu hme.out)
   clear hve hr hx hx5 hme hu
   go_wp2_with (refine wpList_load_mid rfl 28 (.tmp 14) rfl b (o + i * 5) rfl [x0, x1, x2, x3, x4] _ hr2 Tryz.underlying28 rfl (by kernel_rfl) ?_)
   refine hc.mono ?_
   rintro e w2 ⟨rfl, b2⟩
   have hb2 := hide1 (hbw.out.trans (b2.mono hbw.out.size))
   clear hc b2 hbw hr2
   cases hq : f u with
   | true =>
    have hfin : Hid (AnI w B (.returned (.int .i64 (i : Nat))) w2) := hide1 ⟨i, rfl, by rw [hB.out, any_of (hms.out.trans hq)]; exact decide_eq_true (by omega), by omega, by omega, hb2.out⟩
    clear hms hq hB
    go_wp2
    go_ret
    exact hfin.out
   | false =>
    replace hms := hide1 (hms.out.trans hq)
    clear hq
    go_wp2
    go_roundw
    case rel => exact ⟨i + 1, rfl, by omega, hms, hb2⟩
    case measure => simp [intOf]; omega
  ·have hfin : Hid (AnI w B (.returned (.int .i64 (-1))) wr) := hide1 ⟨-1, rfl, by
    rw [hB.out]
    have := hme.out
    rw [List.take_of_length_le (by have := hl.out; omega)] at this
    rw [this]; rfl, by omega, by omega, hbw.out⟩
   have hie : i = cl.length := by omega
   subst hie
   clear hme hbw hlt hB
   go_wp2
   go_ret
   exact hfin.out
theorem cont_d {K : Nat} {cap : Array Value} (he : ∀ args w, (callFunc K args).run Tryz.prog w = .ok (.enter K args) w) {f : T → Bool} {F : Nat → Prop} {w : World} {v : Value} {l : List T} {cl : List (List Value)} (r : RwA F w Vt 5 v cl) (hl : cl.length = l.length) (hb : cl.length ≤ 1000000)
  (hf : ∀ w', Below w.heap.size w w' → ∀ (j : Nat) (t : T) (c : List Value), l[j]? = some t → cl[j]? = some c → Calls Tryz.prog K (#[.agg c.toArray] ++ cap) w' fun e w2 => e = .returned (.bool (f t)) ∧ Below w'.heap.size w' w2) :
  Calls Tryz.prog 92 #[v, .func (.func K) #[] cap] w fun e w' => e = .returned (.bool (l.any f)) ∧ Below w.heap.size w w' := by
 have hi := idx_d he r hl hb hf
 clear r hf hl hb
 generalize l.any f = B at *
 go_enter Tryz.func92, Tryz.ntmps92
 go_wp2_with fail
 refine hi.mono ?_
 rintro e w1 ⟨n, rfl, hn, _, _, b1⟩
 replace b1 := hide1 b1
 clear hi
 cases B with
 | true =>
  have hn' : n ≥ 0 := of_decide_eq_true hn
  go_wp2
  go_ret
  exact ⟨rfl, b1.out⟩
 | false =>
  have hn' : ¬ n ≥ 0 := of_decide_eq_false hn
  go_wp2
  go_ret
  exact ⟨rfl, b1.out⟩
def Sok (n : Nat) : Prop := ∀ {F : Nat → Prop} {w : World} {t : T} {c : List Value} {h : Nat}, hgt h t → sbd h t → VA F w t c → Ev w → 8 ≤ w.heap.size → Calls Tryz.prog 34 #[.agg c.toArray, .int .i64 (8 - n : Nat)] w fun e w' => e = .returned (.bool (gd n t)) ∧ Below w.heap.size w w'
theorem snd1_d {n h b : Nat} (ih : Sok n) {F : Nat → Prop} {w : World} {t : T} {c : List Value} (hh : hgt h t) (hs : sbd h t) (hv : VA F w t c) (hT : Ev w) (h8 : 8 ≤ w.heap.size) (hb : w.heap[b]? = some (.cells #[.int .i64 (8 - n : Nat)] 3 (0, 0))) :
  Calls Tryz.prog 93 (#[.agg c.toArray] ++ #[.pointer (some ⟨b, 0, none⟩)]) w fun e w' => e = .returned (.bool (!gd n t)) ∧ Below w.heap.size w w' := by
 have hc5 := hv.len
 obtain ⟨y0, y1, y2, y3, y4, rfl⟩ := five_l hc5
 have hb0 : Below w.heap.size w (w.alloc (.cells #[y0, y1, y2, y3, y4] 28)) := (Below.refl _ _).alloc (Nat.le_refl _) _
 have hbl := (Array.getElem?_eq_some_iff.1 hb).1
 have hcb : (w.alloc (.cells #[y0, y1, y2, y3, y4] 28)).cell? ⟨b, 0, none⟩ = some (.int .i64 (8 - n : Nat)) := by
  have := (hb0.block b hbl).trans hb
  simp only [World.cell?, this]; rfl
 have hc := ih (c := [y0, y1, y2, y3, y4]) hh hs (hv.frame (fun j _ hj => hb0.block j hj) (fun _ h _ => h)) (hT.below hb0 (by omega)) (by have := hb0.size; omega)
 replace hb0 := hide1 hb0
 generalize gd n t = B at *
 generalize ((8 - n : Nat) : Int) = D at *
 clear hv hT hb hc5 ih hh hs
 show Calls Tryz.prog 93 #[.agg #[y0, y1, y2, y3, y4], .pointer (some ⟨b, 0, none⟩)] w _
 go_enter Tryz.func93, Tryz.ntmps93
 go_wp2_with fail
 refine hc.mono ?_
 rintro e w1 ⟨rfl, b1⟩
 replace b1 := hide1 (hb0.out.trans (b1.mono hb0.out.size))
 clear hc hb0
 go_wp2
 go_ret
 exact ⟨rfl, b1.out⟩
theorem any_all {f : T → Bool} : ∀ l : List T, (!l.any fun t => !f t) = l.all f
 | [] => rfl
 | a :: l => by
  have := any_all (f := f) l
  simp only [List.any_cons, List.all_cons]
  rw [← this]
  cases f a <;> simp
set_option maxRecDepth 100000 in
theorem sndL_d {n h : Nat} (ih : Sok n) {F : Nat → Prop} {w : World} {v : Value} {l : List T} {cl : List (List Value)} (r : RwA F w Vt 5 v cl) (hl : cl.length = l.length) (hb : cl.length ≤ 1000000) (hh : ∀ t ∈ l, hgt h t) (hs : ∀ t ∈ l, sbd h t)
  (hv : ∀ (j : Nat) (t : T) (c : List Value), l[j]? = some t → cl[j]? = some c → VA F w t c) (hT : Ev w) (h8 : 8 ≤ w.heap.size) :
  Calls Tryz.prog 56 #[v, .int .i64 (8 - n : Nat)] w fun e w' => e = .returned (.bool (l.all (gd n))) ∧ Below w.heap.size w w' := by
 obtain ⟨w1, hw1⟩ : ∃ w1, w1 = w.alloc (.cells #[.int .i64 (8 - n : Nat)] 3) := ⟨_, rfl⟩
 have hb0 : Below w.heap.size w w1 := by rw [hw1]; exact (Below.refl _ _).alloc (Nat.le_refl _) _
 have hbx : w1.heap[w.heap.size]? = some (.cells #[.int .i64 (8 - n : Nat)] 3 (0, 0)) := by
  rw [hw1]
  show (w.heap.push _)[w.heap.size]? = _
  rw [Array.getElem?_push, if_pos rfl]
 have hc := cont_d (K := 93) (cap := #[.pointer (some ⟨w.heap.size, 0, none⟩)]) (f := fun t => !gd n t) (fun _ _ => by kernel_rfl) (r.frame (w' := w1) (G := F) (fun j _ hj => hb0.block j hj) (fun _ h _ => h)) hl hb (fun w' hb' j t c h1 h2 =>
  snd1_d ih (hh t (List.mem_of_getElem? h1)) (hs t (List.mem_of_getElem? h1)) ((hv j t c h1 h2).frame (w' := w') (G := F) (fun k _ hk => (hb'.block k (Nat.lt_of_lt_of_le hk hb0.size)).trans (hb0.block k hk)) (fun _ h _ => h)) ((hT.below hb0 (by omega)).below hb' (by have := hb0.size; omega)) (by have := hb0.size; have := hb'.size; omega) ((hb'.block _ (Array.getElem?_eq_some_iff.1 hbx).1).trans hbx))
 have ha := any_all (f := gd n) l
 obtain ⟨sa, sc, rfl⟩ := r.slc
 replace hb0 := hide1 hb0
 rw [← ha]
 generalize (l.any fun t => !gd n t) = B at *
 generalize ((8 - n : Nat) : Int) = D at *
 clear ha r hh hs hv hT hbx ih hl
 go_enter Tryz.func56, Tryz.ntmps56
 go_wp2_with fail
 rw [← hw1]
 refine hc.mono ?_
 rintro e w2 ⟨rfl, b1⟩
 replace b1 := hide1 (hb0.out.trans (b1.mono hb0.out.size))
 clear hc hb0 hw1
 go_wp2
 go_ret
 exact ⟨rfl, b1.out⟩
end Go.Proofs.YtbemaloaobeblaaGreatDoor

namespace Go.Proofs.YtbemaloaobeblaaGreatDoor
open Go.RowKit Go.Shelf Go.Maps
attribute [local go_sem] Oper.semAt_some

theorem results_1b {fn : Func} {p : Tmp} (h : fn.results = #[.cell p 4]) (tmps : Array Value) {u : World} {b : Nat} {x : Bool} (ht : tmps.getD p undef = .pointer (some ⟨b, 0, none⟩)) (hc : u.heap[b]? = some (.cells #[.bool x] 4 (0, 0))) : (results fn tmps).run Tryz.prog u = .ok (.bool x) u := by
 have ht2 : tmps[p]?.getD undef = .pointer (some ⟨b, 0, none⟩) := by simpa using ht
 have hc2 : u.cell? ⟨b, 0, none⟩ = some (.bool x) := by simp only [World.cell?, hc]; rfl
 have hl2 : (loadVar 4 ⟨b, 0, none⟩).run Tryz.prog u = .ok (.bool x) u := by simp [go_sem, hc2]
 simp [results, h, ht2, asAddr, hl2]
structure Sb (w : World) (c : Array Value) (a : Int) (b : Bool) (W : World) : Prop where
 bw : Below w.heap.size w W
 b2 : W.heap[w.heap.size]? = some (.cells c 28 (0, 0))
 b3 : W.heap[w.heap.size + 1]? = some (.cells #[.int .i64 a] 3 (0, 0))
 b4 : W.heap[w.heap.size + 2]? = some (.cells #[.bool b] 4 (0, 0))
theorem Sb.later {w W W' : World} {c : Array Value} {a : Int} {b : Bool} (h : Sb w c a b W) (k : Below W.heap.size W W') : Sb w c a b W' :=
 ⟨h.bw.trans (k.mono h.bw.size), (k.block _ (Array.getElem?_eq_some_iff.1 h.b2).1).trans h.b2, (k.block _ (Array.getElem?_eq_some_iff.1 h.b3).1).trans h.b3, (k.block _ (Array.getElem?_eq_some_iff.1 h.b4).1).trans h.b4⟩
theorem Sb.own {w W W' : World} {c : Array Value} {a : Int} {b : Bool} {row : Option Nat} (h : Sb w c a b W) (hg : W.grownBy W' row) (hr : ∀ r, row = some r → ∃ o : Obj, W.heap[r]? = some o ∧ o.isCells = false ∧ w.heap.size ≤ r) : Sb w c a b W' := by
 have hne : ∀ j cc t, W.heap[j]? = some (.cells cc t (0, 0)) → some j ≠ row := fun j cc t hj e => by
  obtain ⟨o, ho, hc, _⟩ := hr j e.symm
  rw [hj] at ho; cases ho; cases hc
 refine ⟨⟨hg.os.trans h.bw.os, hg.tape.trans h.bw.tape, hg.output.trans h.bw.output, Nat.le_trans h.bw.size hg.size, fun j hj => (hg.block j (Nat.lt_of_lt_of_le hj h.bw.size) (fun e => ?_)).trans (h.bw.block j hj)⟩, (hg.block _ (Array.getElem?_eq_some_iff.1 h.b2).1 (hne _ _ _ h.b2)).trans h.b2, (hg.block _ (Array.getElem?_eq_some_iff.1 h.b3).1 (hne _ _ _ h.b3)).trans h.b3, (hg.block _ (Array.getElem?_eq_some_iff.1 h.b4).1 (hne _ _ _ h.b4)).trans h.b4⟩
 obtain ⟨o, ho, hc, hl⟩ := hr j e.symm
 omega
theorem all_snoc {f : List UInt8 × T → Bool} {qs : List (List UInt8 × T)} {k : Nat} {q : List UInt8 × T} (hq : qs[k]? = some q) (h : (qs.take k).all f = true) : (qs.take (k + 1)).all f = f q := by
 rw [List.take_add_one, hq, List.all_append, h]
 simp
theorem all_of {f : List UInt8 × T → Bool} {qs : List (List UInt8 × T)} {k : Nat} (h : (qs.take k).all f = false) : qs.all f = false := by
 rw [← List.take_append_drop k qs, List.all_append, h]; rfl
set_option maxRecDepth 100000 in
set_option maxHeartbeats 8000000 in
theorem sndP_in {n h : Nat} (ih : Sok n) {F : Nat → Prop} {w : World} {ki : Int} {s : List UInt8} {sl sp : Value} {p : List (List UInt8 × T)} {cp : List (List Value)} (r : RwA F w Pt 6 sp cp) (hl : cp.length = p.length) (hb : cp.length ≤ 1000000) (hh : ∀ q ∈ p, hgt h q.2) (hs : ∀ q ∈ p, q.1.length ≤ 9223372036854775807 ∧ sbd h q.2)
  (hv : ∀ (j : Nat) (q : List UInt8 × T) (c : List Value), p[j]? = some q → cp[j]? = some c → PA F w q c) (hT : Ev w) (h8 : 8 ≤ w.heap.size) :
  CallsIn Fence.wide 5 Tryz.prog 57 #[.agg #[.int .i64 5, .int .i64 ki, .string (st s), sl, sp], .int .i64 (8 - n : Nat)] w fun e w' => e = .returned (.bool (p.all (fun q => Lib.validD q.1 && gd n q.2) && onc (p.map (·.1)))) ∧ Below w.heap.size w w' := by
 obtain ⟨A, hA⟩ : ∃ A, Hid (A = p.all (fun q => Lib.validD q.1 && gd n q.2)) := ⟨_, hide1 rfl⟩
 obtain ⟨O, hO⟩ : ∃ O, Hid (O = onc (p.map (·.1))) := ⟨_, hide1 rfl⟩
 rw [← hA.out, ← hO.out]
 have hnmo : ∀ c ∈ cp, c.all (·.oneCell') = true := fun x hx => by
  obtain ⟨j, hj, rfl⟩ := List.mem_iff_getElem.1 hx
  have hj2 : j < p.length := by omega
  obtain ⟨g1, g2⟩ := hv j _ _ (List.getElem?_eq_getElem hj2) (List.getElem?_eq_getElem hj)
  have g3 := g2.one
  generalize cp[j] = x at *
  cases x with
  | nil => cases g1
  | cons a b =>
   simp at g1
   subst g1
   simpa [Value.oneCell'] using g3
 have hna : NmA F w sp cp (p.map (·.1)) := ⟨r, by simp [hl], fun j c s' h1 h2 => by
   rw [List.getElem?_map] at h2
   cases hq : p[j]? with
   | none => rw [hq] at h2; cases h2
   | some q =>
    rw [hq] at h2
    cases h2
    exact (hv j q c hq h1).1, fun s' hs' => by
   obtain ⟨q, hq, rfl⟩ := List.mem_map.1 hs'
   exact (hs q hq).1, hnmo⟩
 obtain ⟨pa, pc, rfl⟩ := r.slc
 refine callsIn_of_wp_marks Tryz.func57 rfl trivial ?_ rfl
 simp only [Tryz.ntmps57, List.size_toArray, List.length_cons, List.length_nil, Nat.reduceAdd, Nat.reduceSub, Array.replicate_succ, Array.replicate_zero, List.push_toArray, List.append_toArray, List.nil_append, List.cons_append]
 obtain ⟨D, hD⟩ : ∃ D, Hid (D = ((8 - n : Nat) : Int)) := ⟨_, hide1 rfl⟩
 rw [← hD.out]
 replace hv := hide1 hv
 replace hh := hide1 hh
 replace hs := hide1 hs
 replace hna := hide1 hna
 replace hl := hide1 hl
 gi_wp2
 refine ⟨trivial, (callsIn_wide.2 (pairs_d _ _)).mono ?_⟩
 rintro e W1 ⟨rfl, rfl⟩
 have hbw : Below w.heap.size w ((((w.alloc (.cells #[.int .i64 5, .int .i64 ki, .string (st s), sl, .slice pa cp.length pc] 28)).alloc (.cells #[.int .i64 D] 3)).alloc (.cells #[.bool false] 4)).alloc (.cells #[.int .i64 5, .int .i64 ki, .string (st s), sl, .slice pa cp.length pc] 28)) := blw_al (blw_al (blw_al (blw_al (Below.refl _ _) (Nat.le_refl _) _) (by simp) _) (by simp; omega) _) (by simp; omega) _
 have hsz : ((((w.alloc (.cells #[.int .i64 5, .int .i64 ki, .string (st s), sl, .slice pa cp.length pc] 28)).alloc (.cells #[.int .i64 D] 3)).alloc (.cells #[.bool false] 4)).alloc (.cells #[.int .i64 5, .int .i64 ki, .string (st s), sl, .slice pa cp.length pc] 28)).heap.size = w.heap.size + 4 := by simp
 have hG : Sb w #[.int .i64 5, .int .i64 ki, .string (st s), sl, .slice pa cp.length pc] D false ((((w.alloc (.cells #[.int .i64 5, .int .i64 ki, .string (st s), sl, .slice pa cp.length pc] 28)).alloc (.cells #[.int .i64 D] 3)).alloc (.cells #[.bool false] 4)).alloc (.cells #[.int .i64 5, .int .i64 ki, .string (st s), sl, .slice pa cp.length pc] 28)) := by
  refine ⟨hbw, ?_, ?_, ?_⟩
  ·show ((((w.heap.push _).push _).push _).push _)[w.heap.size]? = _
   rw [Array.getElem?_push, if_neg (by simp; omega), Array.getElem?_push, if_neg (by simp; omega), Array.getElem?_push, if_neg (by simp), Array.getElem?_push, if_pos (by simp)]
  ·show ((((w.heap.push _).push _).push _).push _)[w.heap.size + 1]? = _
   rw [Array.getElem?_push, if_neg (by simp), Array.getElem?_push, if_neg (by simp), Array.getElem?_push, if_pos (by simp)]
  ·show ((((w.heap.push _).push _).push _).push _)[w.heap.size + 2]? = _
   rw [Array.getElem?_push, if_neg (by simp), Array.getElem?_push, if_pos (by simp)]
 have hbx : ((((w.alloc (.cells #[.int .i64 5, .int .i64 ki, .string (st s), sl, .slice pa cp.length pc] 28)).alloc (.cells #[.int .i64 D] 3)).alloc (.cells #[.bool false] 4)).alloc (.cells #[.int .i64 5, .int .i64 ki, .string (st s), sl, .slice pa cp.length pc] 28)).heap[w.heap.size + 3]? = some (.cells #[.int .i64 5, .int .i64 ki, .string (st s), sl, .slice pa cp.length pc] 28 (0, 0)) := by
  show ((((w.heap.push _).push _).push _).push _)[w.heap.size + 3]? = _
  rw [Array.getElem?_push, if_pos (by simp)]
 have hsq := pairs_seq hb r hnmo hbw hbx
 gi_wp2
 generalize ((((w.alloc (.cells #[.int .i64 5, .int .i64 ki, .string (st s), sl, .slice pa cp.length pc] 28)).alloc (.cells #[.int .i64 D] 3)).alloc (.cells #[.bool false] 4)).alloc (.cells #[.int .i64 5, .int .i64 ki, .string (st s), sl, .slice pa cp.length pc] 28)) = W0 at *
 refine range_y (w := W0) (gf := 77) (lb := #[.pointer (some ⟨w.heap.size + 3, 0, none⟩)]) rfl (fun _ _ => by kernel_rfl) hsq (fun j hj => by rw [hsz]; rcases hj with hj | hj <;> omega)
  (fun k W => Sb w #[.int .i64 5, .int .i64 ki, .string (st s), sl, .slice pa cp.length pc] D false W ∧ (p.take k).all (fun q => Lib.validD q.1 && gd n q.2) = true)
  (fun c _ W => c = .ret ∧ A = false ∧ Sb w #[.int .i64 5, .int .i64 ki, .string (st s), sl, .slice pa cp.length pc] D false W) ?hI ?hIx ⟨hG, rfl⟩ ?round ?done ?stop
 case hI =>
  intro k A B row h hg hr
  exact ⟨h.1.own hg (fun r e => by obtain ⟨h1, ob, h2, h3⟩ := hr r e; exact ⟨ob, h2, h3, by omega⟩), h.2⟩
 case hIx =>
  rintro c k A B row ⟨hc, h1, h4⟩ hg hr
  exact ⟨hc, h1, h4.own hg (fun r e => by obtain ⟨h1, ob, h2, h3⟩ := hr r e; exact ⟨ob, h2, h3, by omega⟩)⟩
 case round =>
  intro lq k hk W Kq hz hI hK
  rw [hnd_len] at hk
  obtain ⟨x, hx⟩ : ∃ x, cp[k]? = some x := ⟨_, List.getElem?_eq_getElem hk⟩
  obtain ⟨q, hqk⟩ : ∃ q, p[k]? = some q := ⟨_, List.getElem?_eq_getElem (by have := hl.out; omega)⟩
  have hpa := hv.out k q x hqk hx
  have hx6 := r.1 x (List.mem_of_getElem? hx)
  have hhg := hh.out q (List.mem_of_getElem? hqk)
  obtain ⟨hsq1, hsq2⟩ := hs.out q (List.mem_of_getElem? hqk)
  have hit : (cp.map hnd)[k]'(by rw [hnd_len]; exact hk) = hnd x := by
   rw [List.getElem_map]
   congr 1
   have := List.getElem?_eq_getElem hk
   rw [hx] at this
   exact (Option.some.inj this).symm
  rw [hit]
  obtain ⟨x0, x1, x2, x3, x4, x5, rfl⟩ := arr6 hx6
  have hx0 : x0 = .string (st q.1) := by simpa using hpa.1
  subst hx0
  have hva : VA F w q.2 [x1, x2, x3, x4, x5] := hpa.2
  have hon := hva.one
  simp only [hnd, List.headD_cons, List.tail_cons]
  have hr7 : (W.alloc (.cells #[.int .i64 0, .int .i64 0, .string ⟨#[]⟩, .slice none 0 0, .slice none 0 0] 28)).heap[W.heap.size]? = some (.cells #[.int .i64 0, .int .i64 0, .string ⟨#[]⟩, .slice none 0 0, .slice none 0 0] 28 (0, 0)) := by
   show (W.heap.push _)[W.heap.size]? = _
   rw [Array.getElem?_push, if_pos rfl]
  have h7 := setRow_heap (W.alloc (.cells #[.int .i64 0, .int .i64 0, .string ⟨#[]⟩, .slice none 0 0, .slice none 0 0] 28)) W.heap.size _ #[x1, x2, x3, x4, x5] _ _ hr7
  have hal : ∀ j, j < W.heap.size → ((W.alloc (.cells #[.int .i64 0, .int .i64 0, .string ⟨#[]⟩, .slice none 0 0, .slice none 0 0] 28)).setRow W.heap.size #[x1, x2, x3, x4, x5]).heap[j]? = W.heap[j]? := fun j hj => (setRow_other _ _ j _ (by omega)).trans (by
   show (W.heap.push _)[j]? = _
   rw [Array.getElem?_push, if_neg (by omega)])
  have hb7 : Below W.heap.size W ((W.alloc (.cells #[.int .i64 0, .int .i64 0, .string ⟨#[]⟩, .slice none 0 0, .slice none 0 0] 28)).setRow W.heap.size #[x1, x2, x3, x4, x5]) := ⟨rfl, rfl, rfl, by simp [World.setRow], hal⟩
  have hs7 : ((W.alloc (.cells #[.int .i64 0, .int .i64 0, .string ⟨#[]⟩, .slice none 0 0, .slice none 0 0] 28)).setRow W.heap.size #[x1, x2, x3, x4, x5]).heap.size = W.heap.size + 1 := by simp [World.setRow]
  have hf := all_snoc hqk hI.2
  replace hon := hide1 hon
  replace hva := hide1 hva
  clear hit hx hpa hx6 hal
  gi_wp2_with (refine wpListIn_str rfl 28 (.tmp 6) (.tmp 12) rfl W.heap.size #[x1, x2, x3, x4, x5] rfl rfl 28 _ hr7 (by kernel_rfl) rfl (by simpa using hon.out) ?_)
  refine hK _ _ hb7 ?_
  rintro W2 hsame hs2 ⟨hG2, hf2⟩
  have h72 := (hsame W.heap.size (by omega)).trans h7
  have hsz2 : w.heap.size + 4 ≤ W2.heap.size := by rw [hs2, hs7]; omega
  have hT2 := hT.below hG2.bw (by omega)
  have hcv := utf8_ValidString (st q.1) W2 (by rw [st_size]; exact hsq1) hT2.tb
  rw [st_data] at hcv
  replace hG2 := hide1 hG2
  replace hf := hide1 hf
  replace hT2 := hide1 hT2
  replace hI := hide1 hI
  clear hK hsame h7 hf2
  gi_wp2
  refine ⟨trivial, (CallsIn.inRound lq (callsIn_wide.2 hcv)).mono ?_⟩
  rintro e W3 ⟨rfl, b3⟩
  have hG3 := hide1 (hG2.out.later b3)
  have h73 := (b3.block _ (Array.getElem?_eq_some_iff.1 h72).1).trans h72
  have l0 : W3.cell? ⟨W.heap.size, 0, none⟩ = some x1 := by simp only [World.cell?, h73]; rfl
  have l1 : W3.cell? ⟨W.heap.size, 1, none⟩ = some x2 := by simp only [World.cell?, h73]; rfl
  have l2 : W3.cell? ⟨W.heap.size, 2, none⟩ = some x3 := by simp only [World.cell?, h73]; rfl
  have l3 : W3.cell? ⟨W.heap.size, 3, none⟩ = some x4 := by simp only [World.cell?, h73]; rfl
  have l4 : W3.cell? ⟨W.heap.size, 4, none⟩ = some x5 := by simp only [World.cell?, h73]; rfl
  have c3 : W3.cell? ⟨w.heap.size + 1, 0, none⟩ = some (.int .i64 D) := by simp only [World.cell?, hG3.out.b3]; rfl
  have hT3 := hide1 (hT2.out.below b3 (by omega))
  have hsz3 : W2.heap.size ≤ W3.heap.size := b3.size
  have stop : ∀ W4, Below W2.heap.size W2 W4 → (Lib.validD q.1 && gd n q.2) = false → Hid (outX W0.heap.size (fun j => j < w.heap.size ∨ j = w.heap.size + 3) (fun k W => Sb w #[.int .i64 5, .int .i64 ki, .string (st s), sl, .slice pa cp.length pc] D false W ∧ (p.take k).all (fun q => Lib.validD q.1 && gd n q.2) = true) (fun c _ W => c = .ret ∧ A = false ∧ Sb w #[.int .i64 5, .int .i64 ki, .string (st s), sl, .slice pa cp.length pc] D false W) k W2 .ret { tmps := #[], defers := [] } (W4.setCell ⟨w.heap.size + 2, 0, none⟩ (.bool false))) := fun W4 b4 hbad => hide1 (by
   have g := hG2.out.later b4
   have hw5 : W4.setCell ⟨w.heap.size + 2, 0, none⟩ (.bool false) = W4.setRow (w.heap.size + 2) #[.bool false] := by
    rw [setCell_eq_setRow _ (w.heap.size + 2) 0 _ _ (0, 0) _ g.b4]; rfl
   rw [hw5]
   refine ⟨(Kx.below b4).row _ (by omega) (by omega), rfl, ?_, blw_own g.bw (by omega) _, (setRow_other _ _ _ _ (by omega)).trans g.b2, (setRow_other _ _ _ _ (by omega)).trans g.b3, setRow_heap _ _ _ _ _ _ g.b4⟩
   rw [hA.out]
   exact all_of (hf.out.trans hbad))
  replace stop := hide1 stop
  cases hvd : Lib.validD q.1 with
  | false =>
   have hfin := stop.out W3 b3 (by rw [hvd]; rfl)
   have c4 : W3.cell? ⟨w.heap.size + 2, 0, none⟩ = some (.bool false) := by simp only [World.cell?, hG3.out.b4]; rfl
   have f4 : W3.frozen? ⟨w.heap.size + 2, 0, none⟩ = false := by simp [World.frozen?, hG3.out.b4]
   clear stop hcv b3 hvd
   gi_wp2
   refine ⟨trivial, ?_⟩
   rename_i Kz hKz
   refine hKz _ _ ?_
   gi_wp2
   exact hfin.out
  | true =>
   have hcs := ih (w := W3) (c := [x1, x2, x3, x4, x5]) hhg hsq2 (VA.frame (c := [x1, x2, x3, x4, x5]) hva.out (w' := W3) (G := F) (fun j _ hj => hG3.out.bw.block j hj) (fun _ h _ => h)) hT3.out (by omega)
   rw [← hD.out] at hcs
   replace b3 := hide1 b3
   replace hvd := hide1 hvd
   clear hcv
   gi_wp2
   refine ⟨trivial, (CallsIn.inRound lq (callsIn_wide.2 hcs)).mono ?_⟩
   rintro e W4 ⟨rfl, b4⟩
   have b24 := hide1 (b3.out.trans (b4.mono b3.out.size))
   have hG4 := hide1 (hG3.out.later b4)
   cases hgq : gd n q.2 with
   | false =>
    have hfin := stop.out W4 b24.out (by rw [hgq, hvd.out]; rfl)
    have c4 : W4.cell? ⟨w.heap.size + 2, 0, none⟩ = some (.bool false) := by simp only [World.cell?, hG4.out.b4]; rfl
    have f4 : W4.frozen? ⟨w.heap.size + 2, 0, none⟩ = false := by simp [World.frozen?, hG4.out.b4]
    clear stop hcs b4 hgq
    gi_wp2
    exact hfin.out
   | true =>
    have hfin : Hid (Kx W0.heap.size (fun j => j < w.heap.size ∨ j = w.heap.size + 3) W2 W4 ∧ Sb w #[.int .i64 5, .int .i64 ki, .string (st s), sl, .slice pa cp.length pc] D false W4 ∧ (p.take (k + 1)).all (fun q => Lib.validD q.1 && gd n q.2) = true) := hide1 ⟨Kx.below b24.out, hG4.out, by rw [hf.out, hvd.out, hgq]; rfl⟩
    clear stop hcs b4 hgq
    gi_wp2
    exact hfin.out
 case done =>
  rintro E W hE ⟨hGW, hf⟩ hK
  have hAt : A = true := by
   rw [hnd_len, List.take_of_length_le (by have := hl.out; omega)] at hf
   rw [hA.out, hf]
  subst hAt
  have c4 : W.cell? ⟨w.heap.size, 4, none⟩ = some (.slice pa cp.length pc) := by simp only [World.cell?, hGW.b2]; rfl
  have hna2 : NmA F W (.slice pa cp.length pc) cp (p.map (·.1)) := ⟨hna.out.rw.frame (fun j _ hj => hGW.bw.block j hj) (fun _ h _ => h), hna.out.ln, hna.out.nm, hna.out.sm, hna.out.on⟩
  have hpl := places_d hna2 (by omega)
  replace hGW := hide1 hGW
  replace hK := hide1 hK
  clear hf hna2
  gi_wp2
  refine ⟨trivial, (callsIn_wide.2 hpl).mono ?_⟩
  rintro e W2 ⟨mb, MD, mn, rfl, b2, hmb, hmo, hmi⟩
  have hG2 := hGW.out.later b2
  have hK2 := (b2.block _ (Array.getElem?_eq_some_iff.1 hK.out).1).trans hK.out
  have c5 : W2.cell? ⟨w.heap.size + 2, 0, none⟩ = some (.bool false) := by simp only [World.cell?, hG2.b4]; rfl
  have f5 : W2.frozen? ⟨w.heap.size + 2, 0, none⟩ = false := by simp [World.frozen?, hG2.b4]
  have hne : E ≠ w.heap.size + 2 := by rintro rfl; rw [hG2.b4] at hK2; cases hK2
  rw [← hO.out]
  have hw5 : W2.setCell ⟨w.heap.size + 2, 0, none⟩ (.bool O) = W2.setRow (w.heap.size + 2) #[.bool O] := by
   rw [setCell_eq_setRow _ (w.heap.size + 2) 0 _ _ (0, 0) _ hG2.b4]; rfl
  have hDK : (W2.setCell ⟨w.heap.size + 2, 0, none⟩ (.bool O)).heap[E]? = some (.deferred (some [])) := by
   rw [hw5]
   exact (setRow_other _ _ _ _ hne).trans hK2
  have hb5 : (W2.setCell ⟨w.heap.size + 2, 0, none⟩ (.bool O)).heap[w.heap.size + 2]? = some (.cells #[.bool O] 4 (0, 0)) := by
   rw [hw5]
   exact setRow_heap _ _ _ _ _ _ hG2.b4
  have hbb : Below w.heap.size w (W2.setCell ⟨w.heap.size + 2, 0, none⟩ (.bool O)) := by
   rw [hw5]
   exact blw_own hG2.bw (by omega) _
  replace hDK := hide1 hDK
  replace hb5 := hide1 hb5
  replace hbb := hide1 hbb
  replace hne := hide1 hne
  clear hG2 hw5 hpl hmo hmi b2 hK2
  gi_wp2
  refine ⟨by simp, .inl ⟨_, _, rfl, run_takeDeferred hDK.out, ?_⟩⟩
  refine ⟨_, results_1b rfl _ rfl ((World.putObj_heap_other (fun e => hne.out e.symm)).trans hb5.out), ?_⟩
  exact ⟨by rw [Bool.true_and], blw_done hbb.out (by omega) hDK.out⟩
 case stop =>
  rintro E c k W hE hk ⟨rfl, h1, h4⟩ hK
  have hne : w.heap.size + 2 ≠ E := by rintro rfl; rw [h4.b4] at hK; cases hK
  gi_wp2
  refine ⟨by simp, .inl ⟨_, _, rfl, run_takeDeferred hK, ?_⟩⟩
  refine ⟨_, results_1b rfl _ rfl ((World.putObj_heap_other hne).trans h4.b4), ?_⟩
  exact ⟨by rw [h1]; rfl, blw_done h4.bw (by omega) hK⟩
end Go.Proofs.YtbemaloaobeblaaGreatDoor

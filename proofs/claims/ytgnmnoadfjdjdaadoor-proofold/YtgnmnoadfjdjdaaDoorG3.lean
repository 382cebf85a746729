/- O6, O7, O8, A, O9, O10, O11, O12, O13, O14, O16, N17, N18, V3, O20: laid together. -/
import Derived.Handy
import Derived.Laws.Externs
import Derived.Shelf.Spec.BitsCarry
import Derived.Lib.Mul64
import Derived.Shelf.Bits.Mul64
import Derived.Great.BuildSlice
import Derived.Test.YtgnmnoadfjdjdaaDoorG2
import Derived.Test.YtgnmnoadfjdjdaaDoorRows
import Derived.Test.YtgnmnoadfjdjdaaDoorG1
namespace Go.Proofs.YtgnmnoadfjdjdaaDoor.Sh
open Go.RowKit

def cpF (p : Nat → Nat) (fl : Nat) (f : Nat → Nat) (k i : Nat) : Nat := if fl ≤ i ∧ i < fl + k then f (i - fl) else p i
theorem dgc_get {H p : Nat → Nat} {fl ln i : Nat} (h : i < 152) : (dgc H p fl ln)[i]? = some (dgv H p fl ln i) := arr_get _ _ _ h
theorem dgc_none {H p : Nat → Nat} {fl ln i : Nat} (h : 152 ≤ i) : (dgc H p fl ln)[i]? = none := by
  rw [Array.getElem?_eq_none]; rw [dgc_size]; exact h
theorem dgv_cp {H p f : Nat → Nat} {fl0 ln fl k i : Nat} (h : i < 22 + fl ∨ 22 + fl + k ≤ i) : dgv H p fl0 ln i = dgv H (cpF p fl f k) fl0 ln i := by
  unfold dgv
  by_cases h1 : i < 14
  · rw [if_pos h1, if_pos h1]
  · rw [if_neg h1, if_neg h1]
    by_cases h2 : i < 22
    · rw [if_pos h2, if_pos h2]
    · rw [if_neg h2, if_neg h2]
      by_cases h3 : i < 150
      · rw [if_pos h3, if_pos h3]
        have : cpF p fl f k (i - 22) = p (i - 22) := by unfold cpF; rw [if_neg (by omega)]
        rw [this]
      · rw [if_neg h3, if_neg h3]
theorem dgv_in {H p f : Nat → Nat} {fl0 ln fl k i : Nat} (h1 : 22 + fl ≤ i) (h2 : i < 22 + fl + k) (hk : fl + k ≤ 128) : dgv H (cpF p fl f k) fl0 ln i = .int .u8 ((f (i - (22 + fl)) : Nat) : Int) := by
  have e : cpF p fl f k (i - 22) = f (i - (22 + fl)) := by unfold cpF; rw [if_pos (by omega), show i - 22 - fl = i - (22 + fl) by omega]
  unfold dgv
  rw [if_neg (by omega), if_neg (by omega), if_pos (by omega), e]
theorem cp_row {H p f : Nat → Nat} {fl0 ln fl k : Nat} (hk : fl + k ≤ 128) :
    ((dgc H p fl0 ln).toList.take (22 + fl) ++ (List.range k).map (fun j => Value.int .u8 ((f j : Nat) : Int)) ++ (dgc H p fl0 ln).toList.drop (22 + fl + k)).toArray = dgc H (cpF p fl f k) fl0 ln := by
  have hl : (dgc H p fl0 ln).toList.length = 152 := by rw [Array.length_toList, dgc_size]
  apply Array.ext_getElem?
  intro i
  rw [List.getElem?_toArray]
  have hg : ∀ j, j < 152 → (dgc H p fl0 ln).toList[j]? = some (dgv H p fl0 ln j) := fun j hj => by rw [Array.getElem?_toList]; exact dgc_get hj
  rcases Nat.lt_or_ge i (22 + fl) with h1 | h1
  · rw [List.append_assoc, List.getElem?_append_left (by rw [List.length_take, hl]; omega), List.getElem?_take_of_lt h1, hg i (by omega), dgc_get (by omega), dgv_cp (Or.inl h1)]
  · rcases Nat.lt_or_ge i (22 + fl + k) with h2 | h2
    · rw [List.append_assoc, List.getElem?_append_right (by rw [List.length_take, hl]; omega), List.getElem?_append_left (by rw [List.length_map, List.length_range, List.length_take, hl]; omega), List.length_take, hl, Nat.min_eq_left (by omega), List.getElem?_map, List.getElem?_range (by omega), dgc_get (by omega)]
      rw [dgv_in h1 h2 hk, Option.map_some]
    · rw [List.getElem?_append_right (by rw [List.length_append, List.length_map, List.length_range, List.length_take, hl]; omega), List.length_append, List.length_map, List.length_range, List.length_take, hl, Nat.min_eq_left (by omega), List.getElem?_drop, show 22 + fl + k + (i - (22 + fl + k)) = i by omega]
      rcases Nat.lt_or_ge i 152 with h3 | h3
      · rw [hg i h3, dgc_get h3, dgv_cp (Or.inr h2)]
      · rw [List.getElem?_eq_none (by omega), dgc_none h3]
theorem cp_dg {H p f : Nat → Nat} {fl0 ln fl n c len cap q : Nat} {aa : Option Addr} {t0 : TypeId} {w : World} (ty : TypeId) (hl : 0 < len) (hf : fl + n ≤ 128) (hb : Bs w aa len f) (h : w.heap[q]? = some (.cells (dgc H p fl0 ln) t0 (0, 0))) :
    (Builtin.copy_ #[97, 97] ty #[.slice (some ⟨q, 22 + fl, none⟩) n c, .slice aa len cap]).run Tryd.prog w = .ok (.int .i64 ((Nat.min len n : Nat) : Int)) (w.setRow q (dgc H (cpF p fl f (Nat.min len n)) fl0 ln)) := by
  obtain ⟨b, off, rfl, hc⟩ := hb.2 hl
  have hle : Nat.min len n ≤ n := Nat.min_le_right _ _
  have hle2 : Nat.min len n ≤ len := Nat.min_le_left _ _
  have hr := run_copy_row (P := Tryd.prog) w 97 97 ty 5 q (22 + fl) n c ⟨b, off, none⟩ len cap (dgc H p fl0 ln) t0 ((List.range (Nat.min len n)).map (fun j => Value.int .u8 ((f j : Nat) : Int))) Tryd.underlying97 (by kernel_rfl) h (by simp) ?_ ?_ ?_
  · rw [hr]
    simp only [List.length_map, List.length_range]
    rw [cp_row (by omega)]
    rfl
  · intro j v hj
    simp only [List.getElem?_map] at hj
    rcases Nat.lt_or_ge j (Nat.min len n) with h1 | h1
    · rw [List.getElem?_range h1] at hj
      simp only [Option.map_some, Option.some.injEq] at hj
      subst hj
      rw [Addr.add_lit]
      exact hc j (by omega)
    · rw [List.getElem?_eq_none (by simpa using h1)] at hj; cases hj
  · rw [List.length_map, List.length_range, dgc_size]; omega
  · intro v hv
    obtain ⟨j, _, rfl⟩ := List.mem_map.1 hv
    rfl
end Go.Proofs.YtgnmnoadfjdjdaaDoor.Sh

namespace Go.Proofs.YtgnmnoadfjdjdaaDoor.Sh
open Go.RowKit

/-- Words, piece, how much of it is filled: one byte is taken. -/
def a1 (s : (Nat → Nat) × (Nat → Nat) × Nat) (c : Nat) : (Nat → Nat) × (Nat → Nat) × Nat :=
  if s.2.2 + 1 = 64 then (mixH s.1 (updN s.2.1 s.2.2 c), updN s.2.1 s.2.2 c, 0) else (s.1, updN s.2.1 s.2.2 c, s.2.2 + 1)
/-- So many bytes are taken. -/
def aS (s : (Nat → Nat) × (Nat → Nat) × Nat) (f : Nat → Nat) : Nat → (Nat → Nat) × (Nat → Nat) × Nat
  | 0 => s
  | k + 1 => a1 (aS s f k) (f k)
theorem cpF_0 (p : Nat → Nat) (fl : Nat) (f : Nat → Nat) : cpF p fl f 0 = p := by
  funext i; unfold cpF; rw [if_neg (by omega)]
theorem cpF_s (p : Nat → Nat) (fl : Nat) (f : Nat → Nat) (k : Nat) : cpF p fl f (k + 1) = updN (cpF p fl f k) (fl + k) (f k) := by
  funext i
  unfold cpF updN
  by_cases h : i = fl + k
  · subst h; rw [if_pos (by omega), if_pos rfl, show fl + k - fl = k by omega]
  · rw [if_neg h]
    show _ = if fl ≤ i ∧ i < fl + k then f (i - fl) else p i
    by_cases h1 : fl ≤ i ∧ i < fl + k
    · rw [if_pos h1, if_pos (by omega)]
    · rw [if_neg h1, if_neg (by omega)]
theorem aS_run (H p : Nat → Nat) (fl : Nat) (f : Nat → Nat) : ∀ k, fl + k < 64 → aS (H, p, fl) f k = (H, cpF p fl f k, fl + k)
  | 0, _ => by rw [cpF_0]; rfl
  | k + 1, h => by
    show a1 (aS (H, p, fl) f k) (f k) = _
    rw [aS_run H p fl f k (by omega)]
    unfold a1
    rw [if_neg (by show ¬ fl + k + 1 = 64; omega), cpF_s]
    rfl
theorem aS_full (H p : Nat → Nat) (fl : Nat) (f : Nat → Nat) {k : Nat} (hk : 0 < k) (h : fl + k = 64) : aS (H, p, fl) f k = (mixH H (cpF p fl f k), cpF p fl f k, 0) := by
  obtain ⟨j, rfl⟩ : ∃ j, k = j + 1 := ⟨k - 1, by omega⟩
  show a1 (aS (H, p, fl) f j) (f j) = _
  rw [aS_run H p fl f j (by omega)]
  unfold a1
  rw [if_pos (by show fl + j + 1 = 64; omega), cpF_s]
theorem aS_add (s : (Nat → Nat) × (Nat → Nat) × Nat) (f : Nat → Nat) (j : Nat) : ∀ k, aS s f (j + k) = aS (aS s f j) (fun i => f (j + i)) k
  | 0 => rfl
  | k + 1 => by
    show a1 (aS s f (j + k)) (f (j + k)) = a1 (aS (aS s f j) (fun i => f (j + i)) k) (f (j + k))
    rw [aS_add s f j k]
theorem aS_fl {s : (Nat → Nat) × (Nat → Nat) × Nat} {f : Nat → Nat} (h : s.2.2 < 64) : ∀ k, (aS s f k).2.2 < 64
  | 0 => h
  | k + 1 => by
    have ih := aS_fl (f := f) h k
    show (a1 (aS s f k) (f k)).2.2 < 64
    unfold a1
    split
    · show 0 < 64; omega
    · show (aS s f k).2.2 + 1 < 64; omega
theorem aS_H {s : (Nat → Nat) × (Nat → Nat) × Nat} {f : Nat → Nat} (h : ∀ i, s.1 i < B32) : ∀ k i, (aS s f k).1 i < B32
  | 0, i => h i
  | k + 1, i => by
    have ih := aS_H (f := f) h k
    show (a1 (aS s f k) (f k)).1 i < B32
    unfold a1
    split
    · exact mixH_lt ih i
    · exact ih i
theorem aS_p {s : (Nat → Nat) × (Nat → Nat) × Nat} {f : Nat → Nat} (h : ∀ i, s.2.1 i < 256) (hf : ∀ i, f i < 256) : ∀ k i, (aS s f k).2.1 i < 256
  | 0, i => h i
  | k + 1, i => by
    have ih := aS_p h hf k
    have hu : ∀ i, updN (aS s f k).2.1 (aS s f k).2.2 (f k) i < 256 := fun i => by
      unfold updN; split
      · exact hf k
      · exact ih i
    show (a1 (aS s f k) (f k)).2.1 i < 256
    unfold a1
    split
    · exact hu i
    · exact hu i
end Go.Proofs.YtgnmnoadfjdjdaaDoor.Sh

namespace Go.Proofs.YtgnmnoadfjdjdaaDoor.Sh
open Go.RowKit

theorem set_ln (H p : Nat → Nat) (fl ln v : Nat) : (dgc H p fl ln).setIfInBounds 151 (.int .u64 ((v : Nat) : Int)) = dgc H p fl v := by
  unfold dgc
  rw [arr_set]
  refine arr_congr fun j hj => ?_
  unfold upd dgv
  by_cases e : j = 151
  · subst e; simp
  · rw [if_neg e]
    repeat' split
    all_goals first | rfl | omega
theorem set_fl (H p : Nat → Nat) (fl ln v : Nat) : (dgc H p fl ln).setIfInBounds 150 (.int .i64 ((v : Nat) : Int)) = dgc H p v ln := by
  unfold dgc
  rw [arr_set]
  refine arr_congr fun j hj => ?_
  unfold upd dgv
  by_cases e : j = 150
  · subst e; simp
  · rw [if_neg e]
    repeat' split
    all_goals first | rfl | omega
theorem step_copy {w : World} {ops : Array Oper} {o : Oper} {a : Act} {K : Act → World → Prop} {Q : Exit → Act → World → Prop} {E : Prop} (hgd : o.guard = none) (s x : Operand)
    (ho : o.op = .call { callee := .builtin .copy, args := #[s, x], argTypes := #[97, 97] }) {H p f : Nat → Nat} {fl0 ln fl n c len cap q : Nat} {aa : Option Addr} {t0 : TypeId}
    (hs : a.eval s = .slice (some ⟨q, 22 + fl, none⟩) n c) (hx : a.eval x = .slice aa len cap) (hl : 0 < len) (hf : fl + n ≤ 128) (hb : Bs w aa len f) (hq : w.heap[q]? = some (.cells (dgc H p fl0 ln) t0 (0, 0)))
    (h : K (a.put o.dst (.int .i64 ((Nat.min len n : Nat) : Int))) (w.setRow q (dgc H (cpF p fl f (Nat.min len n)) fl0 ln))) : if Region.wanted o (yielded ops a.tmps) = true then Oper.wp Tryd.prog o a w K Q else E := by
  have hw : Region.wanted o (yielded ops a.tmps) = true := by simp [Region.wanted, hgd]
  rw [if_pos hw]
  have hr := cp_dg (cap := cap) (c := c) o.type hl hf hb hq
  unfold Oper.wp execOp
  simp only [ho, resolve, invoke, builtin, Sem.run_bind, Sem.run_pure, Result.andThen_ok, List.map_toArray, List.map_cons, List.map_nil, hs, hx, hr]
  exact h
theorem size_e {w : World} {q : Nat} {H p : Nat → Nat} {fl ln : Nat} (hq : w.heap[q]? = some (.cells (dgc H p fl ln) 121 (0, 0))) : Calls Tryd.prog 84 #[.pointer (some ⟨q, 0, none⟩)] w fun e w' => e = .returned (.int .i64 64) ∧ w' = w := by
  have c0 : w.cell? ⟨q, 0, none⟩ = some (.int .i64 32) := dg_cell (i := 0) (by decide) hq
  clear hq
  go_enter Tryd.func84, Tryd.ntmps84
  go_wp2
  go_ret
  exact ⟨rfl, rfl⟩
theorem step_size {w : World} {ops : Array Oper} {o : Oper} {a : Act} {K : Act → World → Prop} {Q : Exit → Act → World → Prop} {E : Prop} (hgd : o.guard = none) (x : Operand) {tys : Array TypeId}
    (ho : o.op = .call { callee := .value (.func 84), args := #[x], argTypes := tys }) {H p : Nat → Nat} {fl ln q : Nat} (hx : a.eval x = .pointer (some ⟨q, 0, none⟩)) (hq : w.heap[q]? = some (.cells (dgc H p fl ln) 121 (0, 0)))
    (h : K (a.put o.dst (.int .i64 64)) w) : if Region.wanted o (yielded ops a.tmps) = true then Oper.wp Tryd.prog o a w K Q else E := by
  have hw : Region.wanted o (yielded ops a.tmps) = true := by simp [Region.wanted, hgd]
  rw [if_pos hw]
  refine oper_callg 84 #[x] tys ho #[.pointer (some ⟨q, 0, none⟩)] (by simp [hx]) (fun w => by kernel_rfl) (size_e hq) ?_
  rintro w' rfl
  exact h
/-- On the way through the bytes: so many of them are taken. -/
structure Tk (W0 wr : World) (q : Nat) (s : (Nat → Nat) × (Nat → Nat) × Nat) (f : Nat → Nat) (len ln c : Nat) (a : Option Addr) (cap : Nat) : Prop where
  le : c ≤ len
  wt : Wrt W0 wr q (dgc (aS s f c).1 (aS s f c).2.1 (aS s f c).2.2 ln) 121
  bs : Bs wr a (len - c) (fun i => f (c + i))
  ne : ∀ x, a = some x → x.block ≠ q
  cp : len - c ≤ cap
theorem gl_wrt {w w' : World} {q : Nat} {H p : Nat → Nat} {fl ln : Nat} {cc : Array Value} {t : TypeId} (h : Gl w) (hq : w.heap[q]? = some (.cells (dgc H p fl ln) 121 (0, 0))) (k : Wrt w w' q cc t) : Gl w' := by
  obtain ⟨n0, n1⟩ := gl_ne h hq
  refine ⟨fun i hi => ?_, fun i hi => ?_⟩
  · have h1 := h.1 i hi
    rw [← h1]
    exact World.cell?_of_block (w := w) (k.block 2 (cell_lt h1) n0.symm)
  · have h1 := h.2 i hi
    rw [← h1]
    exact World.cell?_of_block (w := w) (k.block 3 (cell_lt h1) n1.symm)
set_option maxHeartbeats 4000000 in
set_option maxRecDepth 100000 in
theorem take_d {H p f : Nat → Nat} {fl ln q len cap : Nat} {a : Option Addr} {W0 : World} (hg : Gl W0) (hH : ∀ i, H i < B32) (hp : ∀ i, p i < 256) (hfl : fl < 64) (hb : Bs W0 a len f) (hne : ∀ x, a = some x → x.block ≠ q) (hcap : len ≤ cap) (hlen : len ≤ 1099511627776) (hq : W0.heap[q]? = some (.cells (dgc H p fl ln) 121 (0, 0))) :
    Calls Tryd.prog 81 #[.pointer (some ⟨q, 0, none⟩), .slice a len cap] W0 fun e w' => e = .returned (.tuple #[]) ∧ Wrt W0 w' q (dgc (aS (H, p, fl) f len).1 (aS (H, p, fl) f len).2.1 (aS (H, p, fl) f len).2.2 ((ln + len) % B64)) 121 := by
  have c151 : W0.cell? ⟨q, 151, none⟩ = some (.int .u64 ((ln : Nat) : Int)) := dg_cell (i := 151) (by decide) hq
  have f151 := froz_dg hq 151
  have ew : IntKind.u64.wrap ((ln : Int) + (len : Int)) = (((ln + len) % B64 : Nat) : Int) := by rw [w64, ← B64_i]; simp
  have ew0 : IntKind.u64.wrap (len : Int) = (len : Int) := by rw [w64]; omega
  have hw1 : Wrt W0 (W0.setCell ⟨q, 151, none⟩ (.int .u64 (((ln + len) % B64 : Nat) : Int))) q (dgc H p fl ((ln + len) % B64)) 121 := by
    have := wrt_cell hq 151 (.int .u64 (((ln + len) % B64 : Nat) : Int))
    rwa [set_ln] at this
  generalize hL : (ln + len) % B64 = L at *
  replace hL := hide1 hL
  go_enter Tryd.func81, Tryd.ntmps81
  go_wp2_with fail
  generalize W0.setCell ⟨q, 151, none⟩ (.int .u64 ((L : Nat) : Int)) = w1 at hw1 ⊢
  have hb1 := hb.wrt hw1 hne
  have hfb := hb.1
  clear c151 f151 ew ew0 hb
  go_loopw [1] (fun v wr => ∃ (c : Nat) (a' : Option Addr) (cap' : Nat), v = .slice a' (len - c) cap' ∧ Tk W0 wr q (H, p, fl) f len L c a' cap') (fun v _ => match v with | .slice _ n _ => n | _ => 0)
  case atStart => exact ⟨0, a, cap, rfl, Nat.zero_le _, hw1, by simpa using hb1, hne, hcap⟩
  case round =>
    clear hb1 hw1 hne
    obtain ⟨c, a1, cap1, rfl, hT⟩ := hrel
    have hfl1 : (aS (H, p, fl) f c).2.2 < 64 := aS_fl hfl c
    have hH1 := aS_H (s := (H, p, fl)) (f := f) hH c
    have hle := hT.le
    by_cases hlt : c < len
    · have hbs := hT.bs
      have hp1 := aS_p (s := (H, p, fl)) (f := f) hp hfb c
      have hwt := hT.wt
      have hcp := hT.cp
      have hnq := hT.ne
      have hm0 : 0 < len - c := by omega
      have hadd := fun k => aS_add (H, p, fl) f c k
      clear hT
      generalize aS (H, p, fl) f c = st at *
      obtain ⟨H1, p1, fl1⟩ := st
      simp only at hfl1 hH1 hp1 hwt hadd
      have hq1 := hwt.row
      obtain ⟨n, hn⟩ : ∃ n, n = Nat.min (len - c) (64 - fl1) := ⟨_, rfl⟩
      have hn1 : n ≤ len - c := by rw [hn]; exact Nat.min_le_left _ _
      have hn2 : n ≤ 64 - fl1 := by rw [hn]; exact Nat.min_le_right _ _
      have hn3 : 0 < n := by rw [hn]; exact Nat.lt_min.2 ⟨hm0, by omega⟩
      obtain ⟨a2, hsl2, hb2, hbk⟩ := from_bs (n := n) hbs hm0 hn1 hcp
      have c150 : wr.cell? ⟨q, 150, none⟩ = some (.int .i64 ((fl1 : Nat) : Int)) := dg_cell (i := 150) (by decide) hq1
      have hsl : ∀ w : World, (Instr.sliceAt 119 (.pointer (some ⟨q, 22, none⟩)) (some (.int .i64 ((fl1 : Nat) : Int))) (some (.int .i64 64)) none).run Tryd.prog w = .ok (.slice (some ⟨q, 22 + fl1, none⟩) (64 - fl1) (128 - fl1)) w := fun w => sl_pc (lo := fl1) (hi := 64) (n := 64 - fl1) (c := 128 - fl1) (by omega) (by omega) (by omega) (by omega) w q
      have hw2 := wrt_row (c' := dgc H1 (cpF p1 fl1 (fun i => f (c + i)) n) fl1 L) hq1
      have hne2 : ∀ a' : Option Addr, (∀ x y : Addr, a1 = some x → a' = some y → y.block = x.block) → ∀ y : Addr, a' = some y → y.block ≠ q := fun a' hk y ey => by
        obtain ⟨b, off, e, _⟩ := hbs.2 hm0
        rw [hk _ y e ey]
        exact hnq _ e
      have hn' := hide1 hn
      have hbs' := hide1 hbs
      have hsl' := hsl
      clear hn hbs
      go_wp2_with fail
      go_region_law (first
        | (refine step_size rfl (.tmp 25) rfl (by first | (simp [Act.eval]; done) | (simp [Act.eval, Act.put]; done) | rfl) hq1 ?_)
        | (refine step_copy rfl (.tmp 27) (.tmp 28) rfl (fl := fl1) (n := 64 - fl1) (c := 128 - fl1) (len := len - c) (cap := cap1) (aa := a1) (f := fun i => f (c + i)) (by first | (simp [Act.eval]; done) | (simp [Act.eval, Act.put]; done) | rfl) (by first | (simp [Act.eval]; done) | (simp [Act.eval, Act.put]; done) | rfl) hm0 (by omega) hbs'.out hq1 ?_))
      all_goals
        rw [← hn'.out]
        have hw3 : Wrt W0 (wr.drew.setRow q (dgc H1 (cpF p1 fl1 (fun i => f (c + i)) n) fl1 L)) q (dgc H1 (cpF p1 fl1 (fun i => f (c + i)) n) fl1 L) 121 := hwt.trans ⟨hw2.os, hw2.tape, hw2.output, hw2.size, hw2.block, hw2.row⟩
        have hb3 : Bs (wr.drew.setRow q (dgc H1 (cpF p1 fl1 (fun i => f (c + i)) n) fl1 L)) a2 (len - c - n) (fun i => f (c + (n + i))) := hb2.wrt (w' := wr.drew.setRow q (dgc H1 (cpF p1 fl1 (fun i => f (c + i)) n) fl1 L)) ⟨hw2.os, hw2.tape, hw2.output, hw2.size, hw2.block, hw2.row⟩ (hne2 a2 hbk)
        clear hw2 hb2 c150 hsl hsl' hbs'
        generalize wr.drew.setRow q (dgc H1 (cpF p1 fl1 (fun i => f (c + i)) n) fl1 L) = w2 at hw3 hb3 ⊢
        have d150 : w2.cell? ⟨q, 150, none⟩ = some (.int .i64 ((fl1 : Nat) : Int)) := dg_cell (i := 150) (by decide) hw3.row
        have g150 := froz_dg hw3.row 150
        have hw4 := wrt_cell hw3.row 150 (.int .i64 ((fl1 + n : Nat) : Int))
        rw [set_fl] at hw4
        have ecast : ((fl1 + n : Nat) : Int) = (fl1 : Int) + (n : Int) := by omega
        rw [ecast] at hw4
        go_upto_region 5 with fail
        have hw5 := hw3.trans hw4
        have hb5 := hb3.wrt hw4 (hne2 a2 hbk)
        clear hw3 hw4 hb3 d150 g150
        generalize w2.setCell ⟨q, 150, none⟩ (.int .i64 ((fl1 : Int) + (n : Int))) = w3 at hw5 hb5 ⊢
        have e150 : w3.cell? ⟨q, 150, none⟩ = some (.int .i64 ((fl1 : Int) + (n : Int))) := by rw [← ecast]; exact dg_cell (i := 150) (by decide) hw5.row
        have hsz : ∀ k, Calls Tryd.prog 84 #[.pointer (some ⟨q, 0, none⟩)] (w3.drewN k) fun e w' => e = .returned (.int .i64 64) ∧ w' = w3.drewN k := fun k => size_e (by simpa using hw5.row)
        go_quiet ((go_at_call 84; refine Calls.quiet_of_same (hsz _)))
        have hw6 : Wrt W0 (w3.drewN nq) q (dgc H1 (cpF p1 fl1 (fun i => f (c + i)) n) (fl1 + n) L) 121 := hw5.later (Array.getElem?_eq_some_iff.1 hw5.row).1 (below_dN w3 nq)
        have hb6 := hb5.later (below_dN w3 nq)
        clear hw5 hb5 e150 hsz
        generalize w3.drewN nq = w4 at hw6 hb6 ⊢
        have hml : ∀ i, cpF p1 fl1 (fun i => f (c + i)) n i < 256 := fun i => by
          unfold cpF
          split
          · exact hfb _
          · exact hp1 i
        have elen : len - (c + n) = len - c - n := by omega
        have hcp2 : len - (c + n) ≤ cap1 - n := by omega
        have hfs : (fun i => f (c + n + i)) = fun i => f (c + (n + i)) := by funext i; rw [Nat.add_assoc]
        by_cases hful : fl1 + n = 64
        · have hbq : ((fl1 : Int) + (n : Int) == 64) = true := by simp; omega
          have hmx := mix_d (gl_wrt hg hq hw6) hH1 hml hw6.row
          have hst := (hadd n).trans (aS_full H1 p1 fl1 (fun i => f (c + i)) hn3 hful)
          go_wp2_with fail
          refine hmx.mono ?_
          rintro e w5 ⟨rfl, hw7⟩
          have d150 : w5.cell? ⟨q, 150, none⟩ = some (.int .i64 ((fl1 + n : Nat) : Int)) := dg_cell (i := 150) (by decide) hw7.row
          have g150 := froz_dg hw7.row 150
          have hw8 := wrt_cell hw7.row 150 (.int .i64 ((0 : Nat) : Int))
          rw [set_fl] at hw8
          have hTk : Tk W0 (w5.setCell ⟨q, 150, none⟩ (.int .i64 0)) q (H, p, fl) f len L (c + n) a2 (cap1 - n) := by
            refine ⟨by omega, ?_, ?_, hne2 a2 hbk, hcp2⟩
            · rw [hst]
              exact (hw6.trans hw7).trans hw8
            · rw [elen, hfs]
              exact (hb6.wrt hw7 (hne2 a2 hbk)).wrt hw8 (hne2 a2 hbk)
          clear hmx hw6 hw7 hw8 hb6 hst
          go_wp2
          exact ⟨⟨c + n, a2, cap1 - n, by rw [elen], hTk⟩, by simp; omega⟩
        · have hbq : ((fl1 : Int) + (n : Int) == 64) = false := by simp; omega
          have hst := (hadd n).trans (aS_run H1 p1 fl1 (fun i => f (c + i)) n (by omega))
          have hTk : Tk W0 w4 q (H, p, fl) f len L (c + n) a2 (cap1 - n) := by
            refine ⟨by omega, ?_, ?_, hne2 a2 hbk, hcp2⟩
            · rw [hst]
              exact hw6
            · rw [elen, hfs]
              exact hb6
          clear hw6 hb6 hst
          go_wp2
          exact ⟨⟨c + n, a2, cap1 - n, by rw [elen], hTk⟩, by simp; omega⟩
    · obtain rfl : c = len := by omega
      have hfin := hT.wt
      have e0 : c - c = 0 := by omega
      rw [e0]
      clear hT
      go_wp2
      go_end0
      refine ⟨rfl, ?_⟩
      exact hfin
end Go.Proofs.YtgnmnoadfjdjdaaDoor.Sh

namespace Go.Proofs.YtgnmnoadfjdjdaaDoor
open Go.RowKit

theorem wrapN (a : Nat) (ha : a < 18446744073709551616) : IntKind.u64.wrap (a : Int) = (a : Int) := by rw [IntKind.wrap_u64]; omega

set_option maxHeartbeats 1000000 in
theorem mul64 (x y : Nat) (hx : x < 18446744073709551616) (hy : y < 18446744073709551616) (w : World) :
    Calls Tryd.prog 90 #[.int .u64 x, .int .u64 y] w fun e w' => e = .returned (.tuple #[.int .u64 ((x * y / 18446744073709551616 : Nat) : Int), .int .u64 ((x * y % 18446744073709551616 : Nat) : Int)]) ∧ w' = w := by
  obtain ⟨bd, bt, bw, hhi⟩ := Lib.mul64_hi x y hx hy
  have ba := Lib.half_mul_le (a := x / 4294967296) (b := y / 4294967296) (by omega) (by omega)
  have bb := Lib.half_mul_le (a := x / 4294967296) (b := y % 4294967296) (by omega) (by omega)
  have bc := Lib.half_mul_le (a := x % 4294967296) (b := y / 4294967296) (by omega) (by omega)
  have ba' : x / 4294967296 * (y / 4294967296) < 18446744073709551616 := by omega
  have bb' : x / 4294967296 * (y % 4294967296) < 18446744073709551616 := by omega
  have bc' : x % 4294967296 * (y / 4294967296) < 18446744073709551616 := by omega
  have bh1 : x / 4294967296 * (y / 4294967296) + (x / 4294967296 * (y % 4294967296) + x % 4294967296 * (y % 4294967296) / 4294967296) / 4294967296 < 18446744073709551616 := by omega
  have bh : x / 4294967296 * (y / 4294967296) + (x / 4294967296 * (y % 4294967296) + x % 4294967296 * (y % 4294967296) / 4294967296) / 4294967296 + ((x / 4294967296 * (y % 4294967296) + x % 4294967296 * (y % 4294967296) / 4294967296) % 4294967296 + x % 4294967296 * (y / 4294967296)) / 4294967296 < 18446744073709551616 := by omega
  go_enter Tryd.func90, Tryd.ntmps90
  go_wp2
  simp only [Mul64.maskN x hx, Mul64.maskN y hy, Mul64.divN, Mul64.mulN, Mul64.addN, Mul64.wrapN _ bd, Mul64.wrapN _ bb', Mul64.wrapN _ bt, Mul64.maskN _ bt, Mul64.wrapN _ bc', Mul64.wrapN _ bw, Mul64.wrapN _ ba', Mul64.wrapN _ bh1, Mul64.wrapN _ bh, Mul64.wrapM (x * y)]
  rw [hhi]
  go_ret2
  exact ⟨rfl, rfl⟩

theorem mul64_ex (x y : Nat) (hx : x < 18446744073709551616) (hy : y < 18446744073709551616) (w : World) :
    Calls Tryd.prog 90 #[.int .u64 x, .int .u64 y] w fun e w' => ∃ hi lo : Nat, hi < 18446744073709551616 - 1 ∧ lo < 18446744073709551616 ∧ Hid (lo + 18446744073709551616 * hi = x * y) ∧ e = .returned (.tuple #[.int .u64 hi, .int .u64 lo]) ∧ w' = w := by
  refine (mul64 x y hx hy w).mono ?_
  rintro e w' ⟨rfl, rfl⟩
  have hb : x * y ≤ 18446744073709551615 * 18446744073709551615 := Nat.mul_le_mul (by omega) (by omega)
  exact ⟨_, _, by omega, Nat.mod_lt _ (by omega), hide1 (by omega), rfl, rfl⟩

end Go.Proofs.YtgnmnoadfjdjdaaDoor

namespace Go.Proofs.YtgnmnoadfjdjdaaDoor.Sh
open Go.RowKit

theorem aS_mod {s : (Nat → Nat) × (Nat → Nat) × Nat} {f : Nat → Nat} (h : s.2.2 < 64) : ∀ k, (aS s f k).2.2 = (s.2.2 + k) % 64
  | 0 => by show s.2.2 = _; omega
  | k + 1 => by
    have ih := aS_mod (f := f) h k
    show (a1 (aS s f k) (f k)).2.2 = _
    unfold a1
    split
    · show 0 = _; omega
    · show (aS s f k).2.2 + 1 = _; omega
def padS (s : (Nat → Nat) × (Nat → Nat) × Nat) (ln : Nat) : (Nat → Nat) × (Nat → Nat) × Nat :=
  aS (aS (aS s (fun _ => 128) 1) (fun _ => 0) ((120 - (aS s (fun _ => 128) 1).2.2) % 64)) (fun i => cntF ln (8 + i)) 8
theorem wrt_eq {w w' : World} {q l : Nat} {t : TypeId} {x y : (Nat → Nat) × (Nat → Nat) × Nat} (h : x = y) (hw : Wrt w w' q (dgc y.1 y.2.1 y.2.2 l) t) : Wrt w w' q (dgc x.1 x.2.1 x.2.2 l) t := by rw [h]; exact hw
/-- How many zeros are still to come. -/
def restZ (q : Nat) (w : World) : Nat := match w.cell? ⟨q, 150, none⟩ with
  | some (.int _ v) => (120 - v.toNat) % 64
  | _ => 0
set_option maxHeartbeats 4000000 in
set_option maxRecDepth 100000 in
theorem pad_d {H p : Nat → Nat} {fl ln q : Nat} {W0 : World} (hg : Gl W0) (hH : ∀ i, H i < B32) (hp : ∀ i, p i < 256) (hfl : fl < 64) (hln : ln < 18446744073709551616) (hq : W0.heap[q]? = some (.cells (dgc H p fl ln) 121 (0, 0))) :
    Calls Tryd.prog 86 #[.pointer (some ⟨q, 0, none⟩)] W0 fun e w' => e = .returned (.tuple #[]) ∧ ∃ ln', Wrt W0 w' q (dgc (padS (H, p, fl) ln).1 (padS (H, p, fl) ln).2.1 (padS (H, p, fl) ln).2.2 ln') 121 := by
  have hqlt := (Array.getElem?_eq_some_iff.1 hq).1
  have hal : Below W0.heap.size W0 (W0.alloc (.cells (ab 16 (fun _ => 0)) 134)) := (Below.refl _ _).alloc (Nat.le_refl _) _
  have hg0 := (MapKept.heap_alloc W0 (.cells (ab 16 (fun _ => 0)) 134)).1
  have hw0 := (Wrt.start hq).later hqlt hal
  rw [zero16] at hal hg0 hw0
  go_enter Tryd.func86, Tryd.ntmps86
  go_upto_region 1 with fail
  generalize W0.alloc (.cells #[.int .u8 0, .int .u8 0, .int .u8 0, .int .u8 0, .int .u8 0, .int .u8 0, .int .u8 0, .int .u8 0, .int .u8 0, .int .u8 0, .int .u8 0, .int .u8 0, .int .u8 0, .int .u8 0, .int .u8 0, .int .u8 0] 134) = w1 at hal hg0 hw0 ⊢
  rw [← zero16] at hg0
  have hs1 := hal.size
  have c151 : w1.cell? ⟨q, 151, none⟩ = some (.int .u64 ((ln : Nat) : Int)) := dg_cell (i := 151) (by decide) hw0.row
  have hgq : W0.heap.size ≠ q := by omega
  go_wp2_with fail
  refine (mul64 ln 8 hln (by decide) _).mono ?_
  rintro e w1 ⟨rfl, rfl⟩
  clear c151
  go_wp2_with fail
  refine (Go.Proofs.YtgnmnoadfjdjdaaDoor.put_d (N := 16) (off := 0) (cap := 16) (v0 := ln * 8 / 18446744073709551616) (by decide) hg0).mono ?_
  rintro e w2 ⟨rfl, hp2⟩
  go_wp2_with fail
  refine (Go.Proofs.YtgnmnoadfjdjdaaDoor.put_d (N := 16) (off := 8) (cap := 8) (v0 := ln * 8 % 18446744073709551616) (by decide) hp2.row).mono ?_
  rintro e w3 ⟨rfl, hp3⟩
  have hrow3 : w3.heap[W0.heap.size]? = some (.cells (ab 16 (cntF ln)) 134 (0, 0)) := hp3.row
  have hq1 := Nat.lt_of_lt_of_le hqlt hs1
  have hw3 := (hw0.other hp2 (Nat.le_refl _) (by omega) hq1).other hp3 (Nat.le_refl _) (by omega) (Nat.lt_of_lt_of_le hq1 hp2.size)
  clear hp2 hp3 hg0 hw0 hal
  go_wp2_with fail
  refine (size_e hw3.row).mono ?_
  rintro e w3 ⟨rfl, rfl⟩
  -- 0x80
  have hal4 : Below w3.heap.size w3 (w3.alloc (.cells #[.int .u8 128] 5)) := (Below.refl _ _).alloc (Nat.le_refl _) _
  have hs3 := hw3.size
  have hw4 := hw3.later (Array.getElem?_eq_some_iff.1 hw3.row).1 hal4
  have hr4 := (hal4.block _ (Array.getElem?_eq_some_iff.1 hrow3).1).trans hrow3
  have htk := take_d (cap := 1) (gl_wrt hg hq hw4) hH hp hfl (bs_one w3 128 (by decide)) (fun x e => by cases e; show w3.heap.size ≠ q; omega) (Nat.le_refl _) (by decide) hw4.row
  go_wp2_with fail
  refine htk.mono ?_
  rintro e w4 ⟨rfl, hw5⟩
  have hr5 := (hw5.block _ (Array.getElem?_eq_some_iff.1 hr4).1 hgq).trans hr4
  replace hw5 := hw4.trans hw5
  have hH1 := aS_H (s := (H, p, fl)) (f := fun _ => 128) hH 1
  have hp1 := aS_p (s := (H, p, fl)) (f := fun _ => 128) hp (fun _ => by decide) 1
  have hf1 : (aS (H, p, fl) (fun _ => 128) 1).2.2 < 64 := aS_fl hfl 1
  have hpS : padS (H, p, fl) ln = aS (aS (aS (H, p, fl) (fun _ => 128) 1) (fun _ => 0) ((120 - (aS (H, p, fl) (fun _ => 128) 1).2.2) % 64)) (fun i => cntF ln (8 + i)) 8 := rfl
  replace hpS := hide1 hpS
  clear htk hw4 hr4 hal4 hw3 hrow3
  generalize aS (H, p, fl) (fun _ => 128) 1 = s1 at *
  generalize hz : (120 - s1.2.2) % 64 = z at *
  replace hz := hide1 hz
  go_wp2
  go_loopw [] (fun wr => ∃ j ln' : Nat, j ≤ z ∧ Wrt W0 wr q (dgc (aS s1 (fun _ => 0) j).1 (aS s1 (fun _ => 0) j).2.1 (aS s1 (fun _ => 0) j).2.2 ln') 121 ∧ wr.heap[W0.heap.size]? = some (.cells (ab 16 (cntF ln)) 134 (0, 0))) (fun wr => restZ q wr)
  case atStart => exact ⟨0, _, Nat.zero_le _, hw5, hr5⟩
  case round =>
    clear hw5 hr5
    obtain ⟨j, ln', hj, hw, hr⟩ := hrel
    have hm := aS_mod (f := fun _ => 0) hf1 j
    have hzo := hz.out
    have e150 : wr.cell? ⟨q, 150, none⟩ = some (.int .i64 (((aS s1 (fun _ => 0) j).2.2 : Nat) : Int)) := dg_cell (i := 150) (by decide) hw.row
    have hsz : ∀ k, Calls Tryd.prog 84 #[.pointer (some ⟨q, 0, none⟩)] (wr.drewN k) fun e w' => e = .returned (.int .i64 64) ∧ w' = wr.drewN k := fun k => size_e (by simpa using hw.row)
    have hH2 := aS_H (s := s1) (f := fun _ => 0) hH1 j
    have hp2 := aS_p (s := s1) (f := fun _ => 0) hp1 (fun _ => by decide) j
    have hf2 : (aS s1 (fun _ => 0) j).2.2 < 64 := aS_fl hf1 j
    have hst : aS s1 (fun _ => 0) (j + 1) = aS (aS s1 (fun _ => 0) j) (fun _ => 0) 1 := aS_add s1 (fun _ => 0) j 1
    have hrz : restZ q wr = (120 - (aS s1 (fun _ => 0) j).2.2) % 64 := by unfold restZ; rw [e150]; simp
    have hwl := hw.size
    by_cases hd : (aS s1 (fun _ => 0) j).2.2 = 56
    · obtain rfl : j = z := by omega
      have hbq : ((((aS s1 (fun _ => 0) j).2.2 : Nat) : Int) == 56) = true := by simp; omega
      rw [hd] at e150
      have hb0 : Bs wr (some ⟨W0.heap.size, 8, none⟩) 8 (fun i => cntF ln (8 + i)) := bs_ab (off := 8) (n := 8) (cnt_lt ln) hr (by decide)
      clear hr hrz hst
      go_wp2_with fail
      go_quiet ((go_at_call 84; refine Calls.quiet_of_same (hsz _)))
      have hw6 := hw.later (Array.getElem?_eq_some_iff.1 hw.row).1 (below_dN wr nq)
      have hb6 := hb0.later (below_dN wr nq)
      have htk := take_d (cap := 8) (gl_wrt hg hq hw6) hH2 hp2 hf2 hb6 (fun x e => by cases e; exact hgq) (Nat.le_refl _) (by decide) hw6.row
      clear hsz hw hb0
      go_wp2_with fail
      refine htk.mono ?_
      rintro e w7 ⟨rfl, hw7⟩
      rw [eta3 (aS s1 (fun _ => 0) j), ← hpS.out] at hw7
      have hfin := hw6.trans hw7
      clear htk hw6 hw7
      go_wp2
      go_end0
      exact ⟨rfl, _, hfin⟩
    · have hbq : ((((aS s1 (fun _ => 0) j).2.2 : Nat) : Int) != 56) = true := by simp; omega
      have hjz : j < z := by
        rcases Nat.lt_or_ge j z with h | h
        · exact h
        · exfalso; omega
      have hnx := aS_mod (f := fun _ => 0) hf1 (j + 1)
      replace hm := hide1 hm
      replace hnx := hide1 hnx
      replace hrz := hide1 hrz
      obtain ⟨T, hT⟩ : ∃ T, Hid (T = aS s1 (fun _ => 0) (j + 1)) := ⟨_, hide1 rfl⟩
      rw [← hT.out] at hst hnx
      replace hst := hide1 hst
      generalize hF : aS s1 (fun _ => 0) j = A at *
      replace hF := hide1 hF
      obtain ⟨A1, A2, A3⟩ := A
      simp only at hw e150 hbq hH2 hp2 hf2
      clear hd
      go_wp2_with fail
      go_quiet ((go_at_call 84; refine Calls.quiet_of_same (hsz _)))
      have hw6 := hw.later (Array.getElem?_eq_some_iff.1 hw.row).1 (below_dN wr nq)
      have hr6 := ((below_dN wr nq).block _ (Array.getElem?_eq_some_iff.1 hr).1).trans hr
      clear hsz hw hr e150
      generalize wr.drewN nq = w4 at hw6 hr6 ⊢
      have hal : Below w4.heap.size w4 (w4.alloc (.cells #[.int .u8 0] 5)) := (Below.refl _ _).alloc (Nat.le_refl _) _
      have hw7 := hw6.later (Array.getElem?_eq_some_iff.1 hw6.row).1 hal
      have hr7 := (hal.block _ (Array.getElem?_eq_some_iff.1 hr6).1).trans hr6
      have hs4 := hw6.size
      have hb4 : Bs (w4.alloc (.cells #[.int .u8 0] 5)) (some ⟨w4.heap.size, 0, none⟩) 1 (fun _ => 0) := bs_one w4 0 (by decide)
      have htk := take_d (cap := 1) (gl_wrt hg hq hw7) hH2 hp2 hf2 hb4 (fun x e => by cases e; show w4.heap.size ≠ q; omega) (Nat.le_refl _) (by decide) hw7.row
      rw [← hst.out] at htk
      clear hb4 hH2 hp2 hf2 hwl
      go_wp2_with fail
      refine htk.mono ?_
      rintro e w8 ⟨rfl, hw8⟩
      have hr8 := (hw8.block _ (Array.getElem?_eq_some_iff.1 hr7).1 hgq).trans hr7
      replace hw8 := hw7.trans hw8
      have hrz2 : restZ q w8 = (120 - T.2.2) % 64 := by
        have e9 : w8.cell? ⟨q, 150, none⟩ = some (.int .i64 ((T.2.2 : Nat) : Int)) := dg_cell (i := 150) (by decide) hw8.row
        unfold restZ; rw [e9]; simp
      have hmeas : restZ q w8 < restZ q wr := by
        have h1 := hm.out
        have h2 := hnx.out
        have h3 := hrz.out
        try simp only at h1
        try simp only at h3
        rw [hrz2, h3]
        omega
      rw [hT.out] at hw8
      clear htk hw6 hw7 hr6 hr7 hal hrz2
      go_wp2
      exact ⟨⟨j + 1, _, by omega, hw8, hr8⟩, hmeas⟩
end Go.Proofs.YtgnmnoadfjdjdaaDoor.Sh

namespace Go.Proofs.YtgnmnoadfjdjdaaDoor.Sh
open Go.RowKit

/-- The words' bytes. -/
def outF (F H : Nat → Nat) : Nat → Nat → Nat
  | 0 => F
  | k + 1 => ptF (outF F H k) (4 * k) (H k) 4
theorem sl_4k {k g cap : Nat} (hk : k < 8) (hc : cap = 32) (w : World) : (Instr.sliceAt 97 (.slice (some ⟨g, 0, none⟩) 32 cap) (some (.int .i64 ((k : Int) * 4))) (some (.int .i64 (((k : Int) + 1) * 4))) none).run Tryd.prog w = .ok (.slice (some ⟨g, 4 * k, none⟩) 4 (32 - 4 * k)) w := by
  subst hc
  have h : k = 0 ∨ k = 1 ∨ k = 2 ∨ k = 3 ∨ k = 4 ∨ k = 5 ∨ k = 6 ∨ k = 7 := by omega
  rcases h with rfl | rfl | rfl | rfl | rfl | rfl | rfl | rfl <;> simp [Instr.sliceAt, go_sem]
theorem in8x {H : Nat → Nat} {k : Nat} (hk : k < 8) (w : World) : (Instr.index 99 (.agg #[.int .u32 ((H 0 : Nat) : Int), .int .u32 ((H 1 : Nat) : Int), .int .u32 ((H 2 : Nat) : Int), .int .u32 ((H 3 : Nat) : Int), .int .u32 ((H 4 : Nat) : Int), .int .u32 ((H 5 : Nat) : Int), .int .u32 ((H 6 : Nat) : Int), .int .u32 ((H 7 : Nat) : Int)]) (.int .i64 ((k : Nat) : Int))).run Tryd.prog w = .ok (.int .u32 ((H k : Nat) : Int)) w := in8 (F := H) hk w
set_option maxHeartbeats 4000000 in
set_option maxRecDepth 100000 in
theorem end_d {H p F : Nat → Nat} {fl ln q g : Nat} {tg : TypeId} {W0 : World} (hg : Gl W0) (hH : ∀ i, H i < B32) (hp : ∀ i, p i < 256) (hfl : fl < 64) (hln : ln < 18446744073709551616) (hq : W0.heap[q]? = some (.cells (dgc H p fl ln) 121 (0, 0))) (ho : W0.heap[g]? = some (.cells (ab 32 F) tg (0, 0))) (hne : g ≠ q) :
    Calls Tryd.prog 82 #[.pointer (some ⟨q, 0, none⟩), .slice (some ⟨g, 0, none⟩) 32 32] W0 fun e w' => e = .returned (.tuple #[]) ∧ w'.heap[g]? = some (.cells (ab 32 (outF F (padS (H, p, fl) ln).1 8)) tg (0, 0)) ∧ Wr2 W0 w' q g := by
  have hpd := pad_d hg hH hp hfl hln hq
  generalize padS (H, p, fl) ln = S at *
  obtain ⟨H1, p1, fl1⟩ := S
  simp only at hpd
  go_enter Tryd.func82, Tryd.ntmps82
  go_wp2_with fail
  refine hpd.mono ?_
  rintro e w1 ⟨rfl, ln', hw1⟩
  clear hpd
  have hr1 := (hw1.block g (Array.getElem?_eq_some_iff.1 ho).1 hne).trans ho
  have c0 : w1.cell? ⟨q, 0, none⟩ = some (.int .i64 32) := dg_cell (i := 0) (by decide) hw1.row
  have d0 : w1.cell? ⟨q, 14, none⟩ = some (.int .u32 ((H1 0 : Nat) : Int)) := dg_cell (i := 14) (by decide) hw1.row
  have d1 : w1.cell? ⟨q, 15, none⟩ = some (.int .u32 ((H1 1 : Nat) : Int)) := dg_cell (i := 15) (by decide) hw1.row
  have d2 : w1.cell? ⟨q, 16, none⟩ = some (.int .u32 ((H1 2 : Nat) : Int)) := dg_cell (i := 16) (by decide) hw1.row
  have d3 : w1.cell? ⟨q, 17, none⟩ = some (.int .u32 ((H1 3 : Nat) : Int)) := dg_cell (i := 17) (by decide) hw1.row
  have d4 : w1.cell? ⟨q, 18, none⟩ = some (.int .u32 ((H1 4 : Nat) : Int)) := dg_cell (i := 18) (by decide) hw1.row
  have d5 : w1.cell? ⟨q, 19, none⟩ = some (.int .u32 ((H1 5 : Nat) : Int)) := dg_cell (i := 19) (by decide) hw1.row
  have d6 : w1.cell? ⟨q, 20, none⟩ = some (.int .u32 ((H1 6 : Nat) : Int)) := dg_cell (i := 20) (by decide) hw1.row
  have d7 : w1.cell? ⟨q, 21, none⟩ = some (.int .u32 ((H1 7 : Nat) : Int)) := dg_cell (i := 21) (by decide) hw1.row
  have hW1 : Wr2 W0 w1 q g := Wr2.one hw1
  clear hw1
  go_wp2_with fail
  clear c0 d0 d1 d2 d3 d4 d5 d6 d7
  go_loopw [19] (fun i wr => ∃ k : Nat, k ≤ 8 ∧ i = .int .i64 k ∧ wr.heap[g]? = some (.cells (ab 32 (outF F H1 k)) tg (0, 0)) ∧ Wr2 W0 wr q g) (fun i _ => 8 - (intOf i).toNat)
  case atStart => exact ⟨0, by omega, rfl, hr1, hW1⟩
  case round =>
    clear hr1 hW1
    obtain ⟨k, hk, rfl, hr, hW⟩ := hrel
    by_cases hlt : k < 8
    · have hsl := fun w => sl_4k (g := g) (cap := 32) hlt rfl w
      have hin := fun w => in8x (H := H1) hlt w
      have hput := put_d (N := 32) (off := 4 * k) (cap := 32 - 4 * k) (v0 := H1 k) (by omega) hr
      have hsl2 := fun w => hsl w
      go_wp2_with fail
      refine hput.mono ?_
      rintro e w2 ⟨rfl, hw2⟩
      have hrow := hw2.row
      have hW2 := hW.next hw2
      clear hput hsl hsl2 hin hw2 hW hr
      go_wp2
      exact ⟨⟨k + 1, by omega, by go_num, hrow, hW2⟩, by simp [intOf]; omega⟩
    · obtain rfl : k = 8 := by omega
      go_wp2
      go_end0
      exact ⟨rfl, hr, hW⟩
end Go.Proofs.YtgnmnoadfjdjdaaDoor.Sh

namespace Go.Proofs.YtgnmnoadfjdjdaaDoor.Sh
open Go.RowKit

/-- All parts are taken. -/
def allS (s : (Nat → Nat) × (Nat → Nat) × Nat) (L : List Pt) : (Nat → Nat) × (Nat → Nat) × Nat := L.foldl (fun s x => aS s x.2 x.1) s
theorem allS_take {s : (Nat → Nat) × (Nat → Nat) × Nat} {L : List Pt} {k : Nat} (h : k < L.length) : allS s (L.take (k + 1)) = aS (allS s (L.take k)) L[k].2 L[k].1 := by
  unfold allS
  rw [List.take_succ_eq_append_getElem h, List.foldl_append]; rfl
theorem bgF_lt : ∀ i, bgF 8 i < B32 := by
  have h : ∀ k i, bgF k i < B32 := by
    intro k
    induction k with
    | zero => intro _; show 0 < B32; decide
    | succ k ih =>
      intro i
      show updN (bgF k) k (sq k / 2 ^ 32) i < B32
      refine upd_lt ih ?_ i
      have := sq_lt k
      unfold B32
      omega
  exact h 8
theorem allS_ok {L : List Pt} (hL : ∀ x ∈ L, ∀ i, x.2 i < 256) : ∀ {s : (Nat → Nat) × (Nat → Nat) × Nat}, (∀ i, s.1 i < B32) → (∀ i, s.2.1 i < 256) → s.2.2 < 64 → (∀ i, (allS s L).1 i < B32) ∧ (∀ i, (allS s L).2.1 i < 256) ∧ (allS s L).2.2 < 64 := by
  induction L with
  | nil => intro s h1 h2 h3; exact ⟨h1, h2, h3⟩
  | cons x r ih =>
    intro s h1 h2 h3
    exact ih (fun y hy => hL y (by simp [hy])) (aS_H h1 x.1) (aS_p h2 (hL x (by simp)) x.1) (aS_fl h3 x.1)
/-- The state at first. -/
def s0 : (Nat → Nat) × (Nat → Nat) × Nat := (bgF 8, fun _ => 0, 0)
/-- The short digest of parts, on paper. -/
def shortP (L : List Pt) : Nat → Nat := outF (fun _ => 0) (padS (allS s0 L) (lenS L)).1 8
set_option maxHeartbeats 4000000 in
set_option maxRecDepth 100000 in
theorem short_d {L : List Pt} {pa : Option Addr} {pc : Nat} {W0 : World} (hg : Gl W0) (hP : PsAt W0 pa L) (hL : ∀ x ∈ L, ∀ i, x.2 i < 256) (hlen : lenS L ≤ 1099511627776) (hn : L.length ≤ 1000000) :
    Calls Tryd.prog 74 #[.slice pa L.length pc] W0 fun e w' => e = .returned (.agg (ab 32 (shortP L))) ∧ Below W0.heap.size W0 w' := by
  have hal : Below W0.heap.size W0 (W0.alloc (.cells (ab 32 fun _ => 0) 34)) := (Below.refl _ _).alloc (Nat.le_refl _) _
  have hr0 := (MapKept.heap_alloc W0 (.cells (ab 32 fun _ => 0) 34)).1
  have hzd : ∀ w : World, (zeroValue 121).run Tryd.prog w = .ok (.agg zdc) w := fun w => by kernel_rfl
  go_enter Tryd.func74, Tryd.ntmps74
  go_upto_region 1 with fail
  refine Eq.mpr (congrArg (fun c => Code.wp _ _ _ _ (W0.alloc (.cells c 34))) (?h : _ = ab 32 (fun _ => 0))) ?_
  case h => kernel_rfl
  generalize W0.alloc (.cells (ab 32 fun _ => 0) 34) = w1 at hal hr0 ⊢
  have hg1 : Gl w1 := ⟨fun i hi => cell_later hal (hg.1 i hi), fun i hi => cell_later hal (hg.2 i hi)⟩
  go_wp2_with fail
  refine (plan_d w1).mono ?_
  rintro e w2 ⟨rfl, hb2⟩
  have hg2 : Gl w2 := ⟨fun i hi => cell_later hb2 (hg1.1 i hi), fun i hi => cell_later hb2 (hg1.2 i hi)⟩
  go_wp2_with fail
  refine (begin_d hg2).mono ?_
  rintro e w3 ⟨rfl, hb3⟩
  go_wp2_with (first
    | (refine wpList_store_row rfl 121 (.tmp 3) (.tmp 8) rfl w3.heap.size (dgc (bgF 8) (fun _ => 0) 0 0) _ 121 rfl rfl (by rw [dgc_size]; kernel_rfl) (MapKept.heap_alloc w3 _).1 (by rw [dgc_size]; exact arr_size _ _) (dgc_one _ _ _ _) rfl ?_)
    | go_in)
  have hb03 : Below W0.heap.size W0 w3 := (hal.trans (hb2.mono hal.size)).trans (hb3.mono (Nat.le_trans hal.size hb2.size))
  have hr3 : w3.heap[W0.heap.size]? = some (.cells (ab 32 fun _ => 0) 34 (0, 0)) := by
    have h1 := (Array.getElem?_eq_some_iff.1 hr0).1
    rw [hb3.block _ (Nat.lt_of_lt_of_le h1 hb2.size), hb2.block _ h1]
    exact hr0
  have hlt3 := (Array.getElem?_eq_some_iff.1 hr3).1
  have hal3 : Below w3.heap.size w3 (w3.alloc (.cells zdc 121)) := (Below.refl _ _).alloc (Nat.le_refl _) _
  have hw4 := wrt_row (c' := dgc (bgF 8) (fun _ => 0) 0 0) (MapKept.heap_alloc w3 (.cells zdc 121)).1
  have hb04 := below_wrt (hb03.trans (hal3.mono hb03.size)) hw4 (by omega) (Nat.le_trans hb03.size hal3.size)
  have hr4 := (hw4.block W0.heap.size (Nat.lt_of_lt_of_le hlt3 hal3.size) (by omega)).trans ((hal3.block _ hlt3).trans hr3)
  have hq4 := hw4.row
  clear hw4 hal3 hr3 hb03 hb3 hb2 hal hr0 hg1 hg2
  generalize (w3.alloc (.cells zdc 121)).setRow w3.heap.size (dgc (bgF 8) (fun _ => 0) 0 0) = w4 at hb04 hr4 hq4 ⊢
  go_loopw [11] (fun i wr => ∃ k : Nat, k ≤ L.length ∧ i = .int .i64 k ∧ wr.heap[w3.heap.size]? = some (.cells (dgc (allS s0 (L.take k)).1 (allS s0 (L.take k)).2.1 (allS s0 (L.take k)).2.2 (lenS (L.take k))) 121 (0, 0)) ∧ wr.heap[W0.heap.size]? = some (.cells (ab 32 fun _ => 0) 34 (0, 0)) ∧ Below W0.heap.size W0 wr) (fun i _ => L.length - (intOf i).toNat)
  case atStart => exact ⟨0, Nat.zero_le _, rfl, hq4, hr4, hb04⟩
  case round =>
    clear hq4 hr4 hb04
    obtain ⟨k, hk, rfl, hq, hr, hb⟩ := hrel
    obtain ⟨o1, o2, o3⟩ := allS_ok (L := L.take k) (fun x hx => hL x (List.mem_of_mem_take hx)) (s := s0) bgF_lt (fun _ => by show 0 < 256; decide) (by show 0 < 64; decide)
    have hgr := gl_b hg hb
    by_cases hlt : k < L.length
    · obtain ⟨pb, off, rfl, hc⟩ := hP (by omega)
      obtain ⟨a, cap, hcl, hbs, hcp, hxl⟩ := hc k hlt
      have hcl := cell_later hb hcl
      have hle := lenS_le L (k + 1)
      have hls := lenS_take hlt
      have hnx := allS_take (s := s0) hlt
      have htk := take_d hgr o1 o2 o3 (hbs.later hb) (fun x ex => by have := hxl x ex; omega) hcp (by omega) hq
      rw [eta3 (allS s0 (L.take k))] at htk
      have hmod : (lenS (L.take k) + L[k].1) % B64 = lenS (L.take k) + L[k].1 := Nat.mod_eq_of_lt (by unfold B64; omega)
      rw [hmod, ← hls, ← hnx] at htk
      replace hls := hide1 hls
      replace hnx := hide1 hnx
      generalize L[k] = pt at *
      clear hc hbs hmod
      go_wp2_with fail
      refine htk.mono ?_
      rintro e w5 ⟨rfl, hw5⟩
      have hq5 := hw5.row
      have hr5 := (hw5.block _ (Array.getElem?_eq_some_iff.1 hr).1 (by omega)).trans hr
      have hb5 := below_wrt hb hw5 (by omega) hb.size
      clear htk hw5 hcl hq hr hb o1 o2 o3 hgr
      go_wp2
      exact ⟨⟨k + 1, by omega, by go_num, hq5, hr5, hb5⟩, by simp [intOf]; omega⟩
    · obtain rfl : k = L.length := by omega
      rw [List.take_length] at hq o1 o2 o3
      have hlp : shortP L = outF (fun _ => 0) (padS (allS s0 L) (lenS L)).1 8 := rfl
      replace hlp := hide1 hlp
      have hlr := (Array.getElem?_eq_some_iff.1 hr).1
      have hlq := (Array.getElem?_eq_some_iff.1 hq).1
      have hal : Below wr.heap.size wr (wr.alloc (.cells (ab 32 fun _ => 0) 34)) := (Below.refl _ _).alloc (Nat.le_refl _) _
      have ho5 := (MapKept.heap_alloc wr (.cells (ab 32 fun _ => 0) 34)).1
      clear hP hL hn
      go_upto_region 8 with fail
      refine Eq.mpr (congrArg (fun c => Code.wp _ _ _ _ (wr.alloc (.cells c 34))) (?h : _ = ab 32 (fun _ => 0))) ?_
      case h => kernel_rfl
      have hq5 := (hal.block _ hlq).trans hq
      have hr5 := (hal.block _ hlr).trans hr
      have hb5 : Below W0.heap.size W0 (wr.alloc (.cells (ab 32 fun _ => 0) 34)) := hb.trans (hal.mono hb.size)
      have hs5 := hal.size
      have hg5 := gl_b hgr hal
      clear hal hq hr hb hgr
      generalize wr.alloc (.cells (ab 32 fun _ => 0) 34) = w5 at hq5 hr5 hb5 ho5 hs5 hg5 ⊢
      have hen := end_d hg5 o1 o2 o3 (by omega) hq5 ho5 (by omega)
      rw [eta3 (allS s0 L), ← hlp.out] at hen
      go_wp2_with fail
      refine hen.mono ?_
      rintro e w6 ⟨rfl, ho6, hW6⟩
      have hr6 := (hW6.block _ (by omega) (by omega) (by omega)).trans hr5
      have hw7 := wrt_row (c' := ab 32 (shortP L)) hr6
      have hfin : Below W0.heap.size W0 (w6.setRow W0.heap.size (ab 32 (shortP L))) := by
        have h6 : Below W0.heap.size W0 w6 := ⟨hW6.os.trans hb5.os, hW6.tape.trans hb5.tape, hW6.output.trans hb5.output, Nat.le_trans hb5.size hW6.size, fun i hi => (hW6.block i (by omega) (by omega) (by omega)).trans (hb5.block i hi)⟩
        exact below_wrt h6 hw7 (Nat.le_refl _) h6.size
      have hrw := hw7.row
      clear hen hW6 hw7 hq5 hr5 hb5 ho5 hg5 o1 o2 o3 hlp
      generalize hF : shortP L = F at *
      replace hF := hide1 hF
      have i29 : (Tryd.prog.info? 34).map (·.size) = some (ab 32 F).size := by rw [ab_size]; kernel_rfl
      have z29 : (ab 32 fun _ => 0).size = (ab 32 F).size := by rw [ab_size, ab_size]
      have o29 := ab_one 32 F
      go_upto_region 9 with fail
      go_wp2_with (first
        | (refine wpList_load_row rfl 34 (.tmp 6) rfl wr.heap.size (ab 32 F) 34 rfl Tryd.underlying34 i29 ho6 ?_)
        | (refine wpList_store_row rfl 34 (.tmp 2) (.tmp 20) rfl W0.heap.size (ab 32 F) (ab 32 fun _ => 0) 34 rfl rfl i29 hr6 z29 o29 rfl ?_))
      exact bodyPost_ret (v := .agg (ab 32 F)) (results_row rfl _ rfl Tryd.underlying34 i29 hrw) rfl ⟨by rw [hF.out], hfin⟩
end Go.Proofs.YtgnmnoadfjdjdaaDoor.Sh

namespace Go.Proofs.YtgnmnoadfjdjdaaDoor.Sh
open Go.RowKit

theorem aS_cong {s : (Nat → Nat) × (Nat → Nat) × Nat} {f g : Nat → Nat} : ∀ k, (∀ i, i < k → f i = g i) → aS s f k = aS s g k
  | 0, _ => rfl
  | k + 1, h => by
    show a1 (aS s f k) (f k) = a1 (aS s g k) (g k)
    rw [aS_cong k (fun i hi => h i (by omega)), h k (by omega)]
theorem allS_join : ∀ (L : List Pt) (s : (Nat → Nat) × (Nat → Nat) × Nat), allS s L = aS s (joinF L) (lenS L)
  | [], s => rfl
  | x :: r, s => by
    have h : lenS (x :: r) = x.1 + lenS r := by simp [lenS]
    rw [h, aS_add]
    show allS (aS s x.2 x.1) r = _
    rw [allS_join r, aS_cong (f := joinF (x :: r)) (g := x.2) x.1 (fun i hi => by show (if i < x.1 then _ else _) = _; rw [if_pos hi])]
    refine aS_cong _ (fun i _ => ?_)
    show _ = if x.1 + i < x.1 then _ else joinF r (x.1 + i - x.1)
    rw [if_neg (by omega), show x.1 + i - x.1 = i by omega]
/-- How many zeros stand between the mark and the count. -/
def zN (n : Nat) : Nat := (120 - (n + 1) % 64) % 64
/-- A text of n bytes, filled up. -/
def padF (f : Nat → Nat) (n : Nat) (i : Nat) : Nat := if i < n then f i else if i = n then 128 else if i < n + 1 + zN n then 0 else cntF n (8 + (i - (n + 1 + zN n)))
/-- How many pieces it has. -/
def nP (n : Nat) : Nat := (n + 1 + zN n + 8) / 64
theorem nP_e (n : Nat) : n + 1 + zN n + 8 = 64 * nP n := by unfold nP zN; omega
theorem padF_lt {f : Nat → Nat} (hf : ∀ i, f i < 256) (n i : Nat) : padF f n i < 256 := by
  unfold padF
  split
  · exact hf i
  · split
    · decide
    · split
      · decide
      · exact cnt_lt _ _
theorem padS_join (f : Nat → Nat) (n : Nat) : padS (aS s0 f n) n = aS s0 (padF f n) (64 * nP n) := by
  have h0 : s0.2.2 < 64 := by show 0 < 64; decide
  have e1 : (aS (aS s0 f n) (fun _ => 128) 1).2.2 = (n + 1) % 64 := by
    rw [aS_mod (aS_fl h0 n), aS_mod h0]
    show ((0 + n) % 64 + 1) % 64 = _
    omega
  unfold padS
  rw [e1]
  show aS (aS (aS (aS s0 f n) (fun _ => 128) 1) (fun _ => 0) (zN n)) (fun i => cntF n (8 + i)) 8 = _
  rw [← nP_e, aS_add s0 (padF f n) (n + 1 + zN n) 8, aS_add s0 (padF f n) (n + 1) (zN n), aS_add s0 (padF f n) n 1]
  rw [aS_cong (f := padF f n) (g := f) n (fun i hi => by unfold padF; rw [if_pos hi])]
  rw [aS_cong (f := fun i => padF f n (n + i)) (g := fun _ => 128) 1 (fun i hi => by show padF f n (n + i) = 128; unfold padF; rw [if_neg (by omega), if_pos (by omega)])]
  rw [aS_cong (f := fun i => padF f n (n + 1 + i)) (g := fun _ => 0) (zN n) (fun i hi => by show padF f n (n + 1 + i) = 0; unfold padF; rw [if_neg (by omega), if_neg (by omega), if_pos (by omega)])]
  refine aS_cong _ (fun i hi => ?_)
  show _ = padF f n (n + 1 + zN n + i)
  unfold padF
  rw [if_neg (by omega), if_neg (by omega), if_neg (by omega), show n + 1 + zN n + i - (n + 1 + zN n) = i by omega]
theorem bwF_cong {p p' F : Nat → Nat} {t : Nat} (h : ∀ i, i < 4 * t + 4 → p i = p' i) : ∀ k, k ≤ 4 → bwF p F t k = bwF p' F t k
  | 0, _ => rfl
  | k + 1, hk => by
    simp only [bwF]
    rw [bwF_cong h k (by omega), h _ (by omega)]
theorem r16_cong {p p' : Nat → Nat} (h : ∀ i, i < 64 → p i = p' i) : ∀ t, t ≤ 16 → r16 p t = r16 p' t
  | 0, _ => rfl
  | t + 1, ht => by
    show bwF p (r16 p t) t 4 = bwF p' (r16 p' t) t 4
    rw [r16_cong h t (by omega)]
    exact bwF_cong (fun i hi => h i (by omega)) 4 (by omega)
theorem r80_cong {p p' : Nat → Nat} (h : ∀ i, i < 64 → p i = p' i) : ∀ k, r80 p k = r80 p' k
  | 0 => r16_cong h 16 (by omega)
  | k + 1 => by simp only [r80]; rw [r80_cong h k]
theorem mixH_cong {H p p' : Nat → Nat} (h : ∀ i, i < 64 → p i = p' i) : mixH H p = mixH H p' := by unfold mixH; rw [r80_cong h]
/-- The words behind so many pieces. -/
def bkH (H f : Nat → Nat) : Nat → Nat → Nat
  | 0 => H
  | k + 1 => mixH (bkH H f k) (fun i => f (64 * k + i))
theorem aS_bk (H p f : Nat → Nat) : ∀ k, (aS (H, p, 0) f (64 * k)).1 = bkH H f k ∧ (aS (H, p, 0) f (64 * k)).2.2 = 0
  | 0 => ⟨rfl, rfl⟩
  | k + 1 => by
    obtain ⟨h1, h2⟩ := aS_bk H p f k
    rw [show 64 * (k + 1) = 64 * k + 64 by omega, aS_add]
    rcases hs : aS (H, p, 0) f (64 * k) with ⟨H1, p1, l1⟩
    rw [hs] at h1 h2
    obtain rfl : l1 = 0 := h2
    obtain rfl : H1 = bkH H f k := h1
    rw [aS_full (bkH H f k) p1 0 (fun i => f (64 * k + i)) (by decide) rfl]
    refine ⟨mixH_cong (fun i hi => ?_), rfl⟩
    unfold cpF
    rw [if_pos (by omega)]; rfl
/-- The short digest, piece by piece. -/
theorem shortP_bk (L : List Pt) : shortP L = outF (fun _ => 0) (bkH (bgF 8) (padF (joinF L) (lenS L)) (nP (lenS L))) 8 := by
  unfold shortP
  rw [allS_join, padS_join]
  have h := (aS_bk (bgF 8) (fun _ => 0) (padF (joinF L) (lenS L)) (nP (lenS L))).1
  show outF _ (aS (bgF 8, fun _ => 0, 0) _ _).1 8 = _
  rw [h]
/-! Bytes of words. -/
theorem ptF_out {F : Nat → Nat} {off x i : Nat} (h : i < off ∨ off + 4 ≤ i) : ∀ k, ptF F off x k i = F i
  | 0 => rfl
  | k + 1 => by
    show updN (ptF F off x k) (off + (3 - k)) (wF x k % 256) i = _
    unfold updN
    rw [if_neg (by omega)]
    exact ptF_out h k
theorem ptF_in {F : Nat → Nat} {off x j : Nat} (h : j < 4) : ∀ k, k ≤ 4 → 3 - j < k → ptF F off x k (off + j) = x / 256 ^ (3 - j) % 256
  | 0, _, h0 => by omega
  | k + 1, hk, h1 => by
    show updN (ptF F off x k) (off + (3 - k)) (wF x k % 256) (off + j) = _
    unfold updN
    by_cases e : j = 3 - k
    · rw [if_pos (by omega), wF_e, show 3 - j = k by omega]
    · rw [if_neg (by omega)]
      exact ptF_in h k (by omega) (by omega)
theorem outF_e {F H : Nat → Nat} : ∀ k i, i < 4 * k → outF F H k i = H (i / 4) / 256 ^ (3 - i % 4) % 256
  | 0, i, h => by omega
  | k + 1, i, h => by
    show ptF (outF F H k) (4 * k) (H k) 4 i = _
    rcases Nat.lt_or_ge i (4 * k) with h1 | h1
    · rw [ptF_out (Or.inl h1) 4]; exact outF_e k i h1
    · obtain ⟨j, rfl⟩ : ∃ j, i = 4 * k + j := ⟨i - 4 * k, by omega⟩
      rw [ptF_in (by omega) 4 (by omega) (by omega), show (4 * k + j) / 4 = k by omega, show (4 * k + j) % 4 = j by omega]
end Go.Proofs.YtgnmnoadfjdjdaaDoor.Sh

namespace Go.Proofs.YtgnmnoadfjdjdaaDoor.Sh
open Go.RowKit

theorem B32_p : B32 = 2 ^ 32 := rfl
theorem add_or {x y : Nat} (hx : x < B32) (hy : y < B32) (h : x &&& y = 0) : x + y = x ||| y := by
  have hx' : x < 2 ^ 33 := Nat.lt_trans hx (by decide)
  have hy' : y < 2 ^ 33 := Nat.lt_trans hy (by decide)
  have hb := BitVec.add_eq_or_of_and_eq_zero (BitVec.ofNat 33 x) (BitVec.ofNat 33 y) (by
    apply BitVec.eq_of_toNat_eq
    rw [BitVec.toNat_and, BitVec.toNat_ofNat, BitVec.toNat_ofNat, Nat.mod_eq_of_lt hx', Nat.mod_eq_of_lt hy', h]; rfl)
  have ht := congrArg BitVec.toNat hb
  rw [BitVec.toNat_add, BitVec.toNat_or, BitVec.toNat_ofNat, BitVec.toNat_ofNat, Nat.mod_eq_of_lt hx', Nat.mod_eq_of_lt hy', Nat.mod_eq_of_lt (by unfold B32 at *; omega)] at ht
  exact ht
theorem mul_mod_p (x k : Nat) (hk : k ≤ 32) : x * 2 ^ k % B32 = x % 2 ^ (32 - k) * 2 ^ k := by
  have h : B32 = 2 ^ (32 - k) * 2 ^ k := by rw [← Nat.pow_add, show 32 - k + k = 32 by omega]; rfl
  rw [h, Nat.mul_mod_mul_right]
/-- Turned right, as a sum. -/
theorem tu_add {x n : Nat} (hx : x < B32) (hn : n ≤ 32) : x / 2 ^ n + x * 2 ^ (32 - n) % B32 = tu x n := by
  have h1 : x / 2 ^ n < 2 ^ (32 - n) := by
    rw [Nat.div_lt_iff_lt_mul (Nat.two_pow_pos n), ← Nat.pow_add, show 32 - n + n = 32 by omega]; exact hx
  unfold tu
  rw [mul_mod_p x (32 - n) (by omega), Nat.or_comm, shl_or h1, Nat.add_comm]
theorem byte_add {x c : Nat} (hc : c < 256) : x * 256 % B32 + c = x * 2 ^ 8 % B32 ||| c := by
  rw [show x * 256 = x * 2 ^ 8 from rfl, mul_mod_p x 8 (by omega), shl_or hc]
theorem bit_M (i : Nat) : Nat.testBit 4294967295 i = decide (i < 32) := Nat.testBit_two_pow_sub_one 32 i
theorem not_sub {e : Nat} (he : e < B32) : 4294967295 - e = 4294967295 ^^^ e := by
  apply Nat.eq_of_testBit_eq
  intro i
  have h := Nat.testBit_two_pow_sub_succ (n := 32) (x := e) he i
  rw [show 4294967295 - e = 2 ^ 32 - (e + 1) by omega, h, Nat.testBit_xor, bit_M]
  by_cases hi : i < 32
  · simp [hi]
  · rw [Nat.testBit_lt_two_pow (Nat.lt_of_lt_of_le he (Nat.pow_le_pow_right (n := 2) (by decide) (by omega : 32 ≤ i)))]
    simp [hi]
theorem ch_add {e f g : Nat} (he : e < B32) (hf : f < B32) (hg : g < B32) : ((e &&& f) + ((4294967295 - e) &&& g)) % B32 = (e &&& f) ||| ((4294967295 ^^^ e) &&& g) := by
  rw [not_sub he]
  have h1 : e &&& f < B32 := and_lt hf
  have h2 : (4294967295 ^^^ e) &&& g < B32 := and_lt hg
  rw [add_or h1 h2 ?_, Nat.mod_eq_of_lt (or_lt h1 h2)]
  apply Nat.eq_of_testBit_eq
  intro i
  rw [Nat.testBit_and, Nat.testBit_and, Nat.testBit_and, Nat.testBit_xor, bit_M, Nat.zero_testBit]
  by_cases hi : i < 32
  · simp [hi]; cases e.testBit i <;> simp
  · rw [Nat.testBit_lt_two_pow (Nat.lt_of_lt_of_le he (Nat.pow_le_pow_right (n := 2) (by decide) (by omega : 32 ≤ i)))]
    simp
end Go.Proofs.YtgnmnoadfjdjdaaDoor.Sh

namespace Go.Proofs.YtgnmnoadfjdjdaaDoor.Sh
open Go.RowKit

theorem right_r {x n : Nat} (hx : x < B32) (hn : n ≤ 32) (W0 : World) : Calls Tryd.prog 68 #[.int .u32 ((x : Nat) : Int), .int .u64 ((n : Nat) : Int)] W0 fun e w' => e = .returned (.int .u32 ((tu x n : Nat) : Int)) ∧ w' = W0 := by
  have h1 := tu_add hx hn
  have h2 := tu_lt (n := n) hx
  go_enter Tryd.func68, Tryd.ntmps68
  go_wp2
  go_ret
  refine ⟨?_, rfl⟩
  have e : IntKind.u32.wrap ((x : Int) / 2 ^ n + IntKind.u32.wrap ((x : Int) * 2 ^ (32 - n))) = ((tu x n : Nat) : Int) := by
    have h3 : (x / 2 ^ n + x * 2 ^ (32 - n) % B32) % B32 = tu x n := by rw [h1]; exact Nat.mod_eq_of_lt h2
    rw [w32, w32, ← h3]
    push_cast [B32_i]
    rfl
  rw [← e]
  rfl
end Go.Proofs.YtgnmnoadfjdjdaaDoor.Sh

namespace Go.Proofs.YtgnmnoadfjdjdaaDoor.Sh
open Go.RowKit Go.Maps

/-- The count's bytes, from the last down to the j-th. -/
def tF (n j i : Nat) : Nat := if j ≤ i then cntF n (8 + i) else 0
theorem tF_z (n : Nat) : ab 8 (updN (fun _ => 0) 7 (n % 32 * 8)) = ab 8 (tF n 7) := arr_congr fun i hi => by
  rw [← cnt_last]
  unfold updN tF
  by_cases h : i = 7
  · subst h; rw [if_pos rfl, if_pos (by omega)]
  · rw [if_neg h, if_neg (by omega)]
theorem tF_s (n : Nat) {m : Nat} (hm : m < 7) : ab 8 (updN (tF n (m + 1)) m (cntF n (8 + m))) = ab 8 (tF n m) := arr_congr fun i hi => by
  unfold updN tF
  by_cases h : i = m
  · subst h; rw [if_pos rfl, if_pos (by omega)]
  · rw [if_neg h]
    by_cases h1 : m + 1 ≤ i
    · rw [if_pos h1, if_pos (by omega)]
    · rw [if_neg h1, if_neg (by omega)]
theorem tF_e (n : Nat) : ab 8 (tF n 0) = ab 8 (fun i => cntF n (8 + i)) := arr_congr fun i hi => by unfold tF; rw [if_pos (by omega)]
set_option maxHeartbeats 4000000 in
set_option maxRecDepth 100000 in
theorem padded_r {a : Option Addr} {len cap : Nat} {f : Nat → Nat} {W0 : World} (hb : Bs W0 a len f) (hlen : len ≤ 1099511627776) :
    Calls Tryd.prog 67 #[.slice a len cap, .int .i64 64, .int .i64 8] W0 fun e w' => ∃ c q len' cap', e = .returned (.slice (some ⟨q, 0, none⟩) len' cap') ∧ W0.heap.size ≤ q ∧ w'.heap[q]? = some (.cells c 5 (0, 0)) ∧ Below W0.heap.size W0 w' ∧ len' = 64 * nP len ∧ ∀ i, i < 64 * nP len → c[i]? = some (.int .u8 ((padF f len i : Nat) : Int)) := by
  have hz : zN len < 64 := Nat.mod_lt _ (by decide)
  have he := nP_e len
  have hP1 : bvs len f = bvs len (padF f len) := bvs_cong fun i hi => by unfold padF; rw [if_pos hi]
  have hP2 : bvs len (padF f len) ++ bvs 1 (fun _ => 128) = bvs (len + 1) (padF f len) := bvs_app fun i hi => by unfold padF; rw [if_neg (by omega), if_pos (by omega)]
  have hP3 : ∀ k, k < zN len → bvs (len + 1 + k) (padF f len) ++ bvs 1 (fun _ => 0) = bvs (len + 1 + k + 1) (padF f len) := fun k hk => bvs_app fun i hi => by unfold padF; rw [if_neg (by omega), if_neg (by omega), if_pos (by omega)]
  have hP4 : bvs (len + 1 + zN len) (padF f len) ++ bvs 8 (fun i => cntF len (8 + i)) = bvs (len + 1 + zN len + 8) (padF f len) := bvs_app fun i hi => by unfold padF; rw [if_neg (by omega), if_neg (by omega), if_neg (by omega), show len + 1 + zN len + i - (len + 1 + zN len) = i by omega]
  have hPl : ∀ i, padF f len i < 256 := padF_lt hb.1 len
  have hst : (W0.alloc (.cells #[] 5)).ownsRow W0.heap.size 5 1 (.slice (some ⟨W0.heap.size, 0, none⟩) 0 0) 0 [] := ⟨rfl, .inr ⟨W0.heap.size, 0, #[], rfl, Nat.le_refl _, (MapKept.heap_alloc W0 _).1, Nat.le_refl _, by decide, rfl, rfl⟩⟩
  have hb0 : Below W0.heap.size W0 (W0.alloc (.cells #[] 5)) := (Below.refl _ W0).alloc (Nat.le_refl _) _
  have hb1 := hb.later hb0
  obtain ⟨PF, hPF⟩ : ∃ PF, Hid (PF = padF f len) := ⟨_, hide1 rfl⟩
  rw [← hPF.out] at hP1 hP2 hP3 hP4 hPl ⊢
  obtain ⟨Z, hZ⟩ : ∃ Z, Hid (Z = zN len) := ⟨_, hide1 rfl⟩
  obtain ⟨M, hM⟩ : ∃ M, Hid (M = 64 * nP len) := ⟨_, hide1 rfl⟩
  rw [← hZ.out] at hz he hP3 hP4
  rw [← hM.out] at he ⊢
  have hm64 : M % 64 = 0 := by rw [hM.out]; omega
  go_enter Tryd.func67, Tryd.ntmps67
  go_wp2_with (at_builtin; first
    | (refine wpList_append_f rfl (.tmp 11) (.tmp 12) rfl W0.heap.size _ 0 [] rfl hst a len cap f rfl hb1 (by omega) hb0.size ?_
       intro v1 w1 ho1 hg1 _
       rw [List.nil_append, Nat.zero_add, hP1] at ho1
       have hw1 := below_app hb0 hb0.size hst hg1
       clear hg1 hst hb0 hb1
       have hs1 := hw1.size)
    | (refine wpList_append_f rfl (.tmp 13) (.tmp 14) rfl W0.heap.size _ len (bvs len PF) rfl (ho1.alloc _) _ 1 1 (fun _ => 128) rfl (bs_one _ 128 (by decide)) (by omega) (by simp; omega) ?_
       intro v2 w2 ho2 hg2 _
       have hw2 := below_app (hw1.alloc hs1 _) (by simp; omega) (ho1.alloc _) hg2
       rw [hP2] at ho2
       clear hg2 ho1 hw1 hs1))
  go_loopw [7] (fun v wr => ∃ k : Nat, k ≤ Z ∧ wr.ownsRow W0.heap.size 5 1 v (len + 1 + k) (bvs (len + 1 + k) PF) ∧ Below W0.heap.size W0 wr) (fun v _ => M - slN v)
  case atStart => exact ⟨0, Nat.zero_le _, ho2, hw2⟩
  case round =>
    clear ho2 hw2
    obtain ⟨k, hk, ho, hw⟩ := hrel
    obtain ⟨L, hL⟩ : ∃ L, Hid (L = len + 1 + k) := ⟨_, hide1 rfl⟩
    rw [← hL.out] at ho
    obtain ⟨av, cv, rfl, -, -⟩ := bs_own ho hPl
    have hs := hw.size
    have hL1 : L ≤ 1099511627776 + 65 := by rw [hL.out]; omega
    by_cases hlt : k < Z
    · have hX := hide1 (hP3 k hlt)
      have hne : ((L : Int) + 8) % 64 ≠ 0 := by have := hL.out; omega
      go_wp2_with (at_builtin; refine wpList_append_f rfl (.tmp 23) (.tmp 24) rfl W0.heap.size _ L (bvs L PF) rfl (ho.alloc _) _ 1 1 (fun _ => 0) rfl (bs_one _ 0 (by decide)) (by omega) (by simp; omega) ?_; intro v' w' ho' hg' _; have hw' := below_app (hw.alloc hs _) (by simp; omega) (ho.alloc _) hg')
      go_roundw
      case rel => exact ⟨k + 1, by omega, by rw [hL.out, hX.out] at ho'; exact ho', hw'⟩
      case measure => rw [own_slN ho']; show M - (L + 1) < M - L; have := hL.out; omega
    · obtain rfl : k = Z := by omega
      have hLM : L + 8 = M := by rw [hL.out]; exact he
      have heq : ((L : Int) + 8) % 64 = 0 := by omega
      clear hP1 hP2 hP3
      have hmk : (Instr.makeSlice 97 (.int .i64 8) (.int .i64 8)).run Tryd.prog wr = .ok (.slice (some ⟨wr.heap.size, 0, none⟩) 8 8) (wr.alloc (.cells (ab 8 fun _ => 0) 5)) := by
        have h := run_make_row' (P := Tryd.prog) 97 5 (.int .u8 0) 1 Tryd.underlying97 info_u8 rfl .i64 .i64 8 (by omega) (by omega) wr
        rw [show madeCells #[.int .u8 0] 8 = ab 8 (fun _ => 0) by kernel_rfl] at h
        exact h
      have hr0 : (wr.alloc (.cells (ab 8 fun _ => 0) 5)).heap[wr.heap.size]? = some (.cells (ab 8 fun _ => 0) 5 (0, 0)) := (MapKept.heap_alloc wr _).1
      have ho1 := ho.alloc (.cells (ab 8 fun _ => 0) 5)
      have hw1 := hw.alloc hs (.cells (ab 8 fun _ => 0) 5)
      have hg1 : (wr.alloc (.cells (ab 8 fun _ => 0) 5)).heap.size = wr.heap.size + 1 := by simp
      have hav := ho.lt
      generalize wr.alloc (.cells (ab 8 fun _ => 0) 5) = w3 at *
      generalize hg : wr.heap.size = g at *
      have c7 : w3.cell? ⟨g, 7, none⟩ = some (.int .u8 0) := by rw [cell_of_row _ _ _ _ _ _ hr0]; exact arr_get _ _ _ (by omega)
      have f7 := froz_dg hr0 7
      go_wp2_with fail
      have hW := wrt_cell hr0 7 (.int .u8 ((len % 32 * 8 : Nat) : Int))
      rw [ab_set, tF_z] at hW
      have hW : Wrt w3 (w3.setCell ⟨g, 7, none⟩ (.int .u8 ((len : Int) % 32 * 8))) g (ab 8 (tF len 7)) 5 := hW
      clear c7 f7 hmk hr0
      go_loopw [9, 10] (fun x i wr => ∃ j : Nat, j ≤ 7 ∧ x = .int .i64 ((len / 32 / 256 ^ (7 - j) : Nat) : Int) ∧ i = .int .i64 ((j : Int) - 1) ∧ Wrt w3 wr g (ab 8 (tF len j)) 5) (fun _ i _ => (intOf i + 1).toNat)
      case atStart => exact ⟨7, by omega, by show _ = Value.int _ ((len / 32 / 1 : Nat) : Int); rw [Nat.div_one]; rfl, rfl, hW⟩
      case round =>
        clear hW
        obtain ⟨j, hj, rfl, rfl, hW⟩ := hrel
        rcases j with _ | m
        · rw [tF_e] at hW
          have ho3 := own_wrt ho1 hW (fun q hq => by have := hav q hq; omega)
          have hbs : Bs wr (some ⟨g, 0, none⟩) 8 (fun i => cntF len (8 + i)) := by
            have h := bs_ab (n := 8) (off := 0) (fun i => cnt_lt len (8 + i)) hW.row (by omega)
            simpa using h
          have hw3 : Below W0.heap.size W0 wr := below_wrt hw1 hW (by omega) (by omega)
          rw [← hL.out, hLM] at hP4
          rw [show (((0 : Nat) : Int) - 1) = -1 by rfl] at *
          clear hW ho1 hw1 ho hw
          have hs3 := hw3.size
          go_wp2_with (at_builtin; refine wpList_append_f rfl (.tmp 54) (.tmp 55) rfl W0.heap.size _ L (bvs L PF) rfl ho3 _ 8 8 (fun i => cntF len (8 + i)) rfl hbs (by omega) hs3 ?_; intro v' w' ho' hg' _; have hw' := below_app hw3 hs3 ho3 hg'; rw [hP4, hLM] at ho'; rcases ho'.2 with ⟨_, h0⟩ | ⟨q, c', cur, rfl, hbq, hgq, hnc, hcm, hcs, hty⟩)
          · exfalso; omega
          go_ret
          refine ⟨cur, q, M, c', rfl, hbq, hgq, hw', rfl, fun i hi => ?_⟩
          have h1 := ho'.cellAt i (by omega)
          rw [bvs_get PF hi] at h1
          rw [← h1, cell_of_row _ _ _ _ _ _ hgq]
        · have hX1 : len / 32 / 256 ^ (7 - (m + 1)) % 256 = cntF len (8 + m) := by rw [cnt_ref len (by omega), show 14 - (8 + m) = 7 - (m + 1) by omega]
          have hX2 := hide1 (show len / 32 / 256 ^ (7 - (m + 1)) / 256 = len / 32 / 256 ^ (7 - m) by rw [show 7 - m = 7 - (m + 1) + 1 by omega, Nat.pow_succ, Nat.div_div_eq_div_mul (len / 32)])
          have hX3 : len / 32 / 256 ^ (7 - (m + 1)) ≤ 1099511627776 := Nat.le_trans (Nat.div_le_self _ _) (by omega)
          rw [show (((m + 1 : Nat) : Int) - 1) = (m : Int) by omega] at *
          generalize len / 32 / 256 ^ (7 - (m + 1)) = X at *
          have hX1 := hide1 hX1
          have c1 : wr.cell? ⟨g, m, none⟩ = some (.int .u8 ((tF len (m + 1) m : Nat) : Int)) := by rw [cell_of_row _ _ _ _ _ _ hW.row]; exact arr_get _ _ _ (by omega)
          have f1 := froz_dg hW.row m
          have hN := hW.trans (wrt_cell hW.row m (.int .u8 ((X % 256 : Nat) : Int)))
          rw [ab_set, hX1.out, tF_s len (by omega), ← hX1.out] at hN
          have hN : Wrt w3 (wr.setCell ⟨g, m, none⟩ (.int .u8 ((X : Int) % 256))) g (ab 8 (tF len m)) 5 := hN
          have hN := hide1 hN
          go_wp2_with fail
          go_roundw
          case rel => exact ⟨m, by omega, by rw [← hX2.out]; rfl, rfl, hN.out⟩
          case measure => simp [intOf]
end Go.Proofs.YtgnmnoadfjdjdaaDoor.Sh

namespace Go.Proofs.YtgnmnoadfjdjdaaDoor
open Go.RowKit Go.Maps

theorem sq_row : au 8 sq = #[.int .u64 7640891576956012808, .int .u64 13503953896175478587, .int .u64 4354685564936845355, .int .u64 11912009170470909681, .int .u64 5840696475078001361, .int .u64 11170449401992604703, .int .u64 2270897969802886507, .int .u64 6620516959819538809] := by kernel_rfl
set_option maxRecDepth 100000 in
theorem roots_r (W0 : World) : Calls Tryd.prog 65 #[] W0 fun e w' => e = .returned (.slice (some ⟨W0.heap.size, 0, none⟩) 8 8) ∧ w'.heap[W0.heap.size]? = some (.cells (au 8 sq) 102 (0, 0)) ∧ Below W0.heap.size W0 w' := by
  rw [sq_row]
  go_enter Tryd.func65, Tryd.ntmps65
  go_wp2
  go_ret
  exact ⟨rfl, (MapKept.heap_alloc W0 _).1, (Below.refl _ W0).alloc (Nat.le_refl _) _⟩
end Go.Proofs.YtgnmnoadfjdjdaaDoor

namespace Go.Proofs.YtgnmnoadfjdjdaaDoor
open Go.RowKit Go.Maps

theorem cu_row : ((cuL.map Int.ofNat).map (Value.int .u64)).toArray = au 80 cu := by kernel_rfl
set_option maxHeartbeats 1000000 in
set_option maxRecDepth 100000 in
theorem table_r (W0 : World) : Calls Tryd.prog 66 #[] W0 fun e w' => e = .returned (.slice (some ⟨W0.heap.size, 0, none⟩) 80 80) ∧ w'.heap[W0.heap.size]? = some (.cells (au 80 cu) 102 (0, 0)) ∧ Below W0.heap.size W0 w' := by
  obtain ⟨T, hT⟩ : ∃ T, Hid (T = au 80 cu) := ⟨_, hide1 rfl⟩
  rw [← hT.out]
  go_enter Tryd.func66, Tryd.ntmps66
  go_wp2_with (refine wpList_buildFlat rfl 100 102 80 _ rfl .u64 (cuL.map Int.ofNat) Tryd.underlying100 (by kernel_rfl) (by kernel_rfl) (by kernel_rfl) (by omega) (by omega) (by kernel_rfl) ?_; rw [cu_row, ← hT.out])
  go_ret
  exact ⟨rfl, (MapKept.heap_alloc W0 _).1, (Below.refl _ W0).alloc (Nat.le_refl _) _⟩
end Go.Proofs.YtgnmnoadfjdjdaaDoor

namespace Go.Proofs.YtgnmnoadfjdjdaaDoor
open Go.RowKit
section
variable {P : Program} {W : Wd} {ops : Array Oper} {s0 s1 : List SV} {z : List Blk} {y : List (Array Value)} {o : Oper}
/-- A call that lays a block, and answers what stands for it. -/
theorem k_cn (f : FuncId) {args : Array Operand} {tys : Array TypeId} (vs : Array Value) {d : Tmp} (b : Nat) (fm : Fm) {c : Array Value} {t0 : TypeId} (hc : ∀ w, KW W w → Calls P f vs w fun e w' => ∃ q, e = .returned (fv fm q) ∧ w.heap.size ≤ q ∧ w'.heap[q]? = some (.cells c t0 (0, 0)) ∧ Below w.heap.size w w') (ho : o.op = .call { callee := .value (.func f), args := args, argTypes := tys }) (hd : o.dst = some d)
    (hw : wantF ops s1 o = true := by kernel_rfl) (hs : slot s1 d = .inr (b, fm) := by kernel_rfl) (hz : zc z b = (c, t0) := by kernel_rfl) (hv : args.map (evS s1) = vs := by kernel_rfl) (hp : args.all (plainB s1) = true := by kernel_rfl) (he : ∀ w, (callFunc f vs).run P w = .ok (.enter f vs) w := by intro w; kernel_rfl) : Ok1 P W ops s0 s1 z y o ⟨some b, none, none, false⟩ := by
  refine Or.inl ⟨hw, ⟨?_, fun b' h => ?_, fun b _ h => by simp at h, ?_⟩⟩
  · rintro b' (h | h | ⟨h, _⟩) <;> simp at h
  · cases h; exact ⟨d, _, hd, hs⟩
  · intro β a w ha hb hr hns K Q hK
    have hmap : args.map a.eval = vs := by
      rw [← hv]
      apply Array.map_congr_left
      intro x hx
      refine ev_plain ha ?_ (Array.all_eq_true_iff_forall_mem.1 hp x hx)
      rw [ho]; simp [Op.operands, Call.operands, hx]
    have hev : a.eval (.func f) = .func (.func f) #[] #[] := rfl
    unfold Oper.wp execOp
    simp only [ho, resolve, invoke, Sem.run_bind, hmap, hev, Deferred.ofValue, Sem.run_pure, Result.andThen_ok, Array.append_empty, Array.empty_append, he, Oper.upon_enter]
    refine (hc w hb).mono ?_
    rintro e w' ⟨q, rfl, hq, hrow, hbl⟩
    exact hK _ _ ⟨q, hq, fun d' fm' h1 h2 => by rw [hd] at h1; cases h1; rw [hs] at h2; cases h2; rfl, by rw [hz]; exact hrow, hbl⟩
end
section
variable {P : Program} {W : Wd} {s : List SV} {d : List (Nat × SV)} {m : List Blk} {β : Nat → Nat} {a : Act} {w : World} {Q : Exit → Act → World → Prop}
theorem tm_put {t : Nat} {sv : SV} {v : Value} (hv : den β sv = v) : ({ tmps := ((ov s d).map (den β)).toArray, defers := [] } : Act).put (some t) v = { tmps := ((ov s ((t, sv) :: d)).map (den β)).toArray, defers := [] } := by
  unfold Act.put
  simp only [Act.mk.injEq, and_true]
  apply Array.ext_getElem?
  intro i
  rw [Array.getElem?_setIfInBounds]
  simp only [List.size_toArray, List.getElem?_toArray, List.getElem?_map, List.length_map, ov_len]
  rcases Nat.lt_or_ge i s.length with hi | hi
  · have e1 : ∀ d : List (Nat × SV), (ov s d)[i]? = some (lk d i s) := fun d => by simp [ov, hi]
    rw [e1, e1]
    simp only [Option.map_some]
    by_cases e : t = i
    · subst e
      rw [if_pos rfl, if_pos hi, ← hv]
      show _ = some (den β (bif Nat.beq t t then sv else _))
      rw [Nat.beq_refl]; rfl
    · rw [if_neg e]
      show _ = some (den β (bif Nat.beq t i then sv else lk d i s))
      rw [show Nat.beq t i = false from by
        cases hb : Nat.beq t i with
        | false => rfl
        | true => exact absurd (Nat.beq_eq.mp hb) e]
      rfl
  · have e1 : ∀ d : List (Nat × SV), (ov s d)[i]? = none := fun d => by rw [List.getElem?_eq_none]; rw [ov_len]; exact hi
    rw [e1, e1]
    by_cases e : t = i
    · subst e
      rw [if_pos rfl, if_neg (by omega)]; rfl
    · rw [if_neg e]
theorem bup_new (β : Nat → Nat) (n q : Nat) : bup β n q n = q := by unfold bup; rw [Nat.beq_refl]; rfl
theorem bup_old (β : Nat → Nat) {n q b : Nat} (h : b < n) : bup β n q b = β b := by
  unfold bup
  rw [show Nat.beq b n = false from by
    cases e : Nat.beq b n with
    | false => rfl
    | true => have := Nat.beq_eq.mp e; omega]
  rfl
/-- A block more, that a call has laid. -/
theorem St.grown (h : St W (ov s d) m β a w) {q : Nat} {c : Array Value} {t0 : TypeId} {w' : World} (hq : w.heap.size ≤ q) (hr : w'.heap[q]? = some (.cells c t0 (0, 0))) (hb : Below w.heap.size w w') : St W (ov s d) (m ++ [(c, t0)]) (bup β m.length q) { tmps := ((ov s d).map (den (bup β m.length q))).toArray, defers := [] } w' ∧ a = { tmps := ((ov s d).map (den (bup β m.length q))).toArray, defers := [] } := by
  have hlt : ∀ b, b < m.length → β b < w.heap.size := by
    intro b hb
    obtain ⟨x, hx⟩ : ∃ x, m[b]? = some x := ⟨_, List.getElem?_eq_getElem hb⟩
    exact (Array.getElem?_eq_some_iff.1 (h.row b x hx)).1
  have hS : ∀ k, W.S k → k < w.heap.size := fun k hk => Nat.lt_of_lt_of_le (W.lt k hk) h.bel.size
  refine ⟨⟨rfl, h.bel.quiet hb, ?_, ?_, ?_, ?_, ?_⟩, ?_⟩
  · intro b c' hc
    rcases Nat.lt_or_ge b m.length with hb' | hb'
    · rw [List.getElem?_append_left hb'] at hc
      rw [bup_old β hb', hb.block _ (hlt b hb')]
      exact h.row b c' hc
    · have hb2 : b < (m ++ [(c, t0)]).length := (List.getElem?_eq_some_iff.1 hc).1
      obtain rfl : b = m.length := by simp at hb2; omega
      rw [List.getElem?_append_right (Nat.le_refl _), Nat.sub_self] at hc
      cases hc
      rw [bup_new]; exact hr
  · intro b hb'
    rcases Nat.lt_or_ge b m.length with h1 | h1
    · rw [bup_old β h1]; exact h.old b h1
    · obtain rfl : b = m.length := by simp at hb'; omega
      rw [bup_new]
      intro hs
      have := hS _ hs
      omega
  · intro b c' hb' hc e
    rcases Nat.lt_or_ge b m.length with h1 | h1 <;> rcases Nat.lt_or_ge c' m.length with h2 | h2
    · rw [bup_old β h1, bup_old β h2] at e; exact h.inj b c' h1 h2 e
    · obtain rfl : c' = m.length := by simp at hc; omega
      rw [bup_old β h1, bup_new] at e
      have := hlt b h1; omega
    · obtain rfl : b = m.length := by simp at hb'; omega
      rw [bup_old β h2, bup_new] at e
      have := hlt c' h2; omega
    · simp at hb' hc; omega
  · intro t p h1 h2
    have := h.live t p h1 h2
    simp; omega
  · intro b r hb'
    have := h.pin b r hb'
    exact ⟨by simp; omega, by rw [bup_old β this.1]; exact this.2⟩
  · rw [h.tm]
    simp only [Act.mk.injEq, and_true]
    congr 1
    apply List.map_congr_left
    intro x hx
    cases x with
    | inl v => rfl
    | inr p =>
      obtain ⟨t, ht, e⟩ := List.getElem_of_mem hx
      have hs : slot (ov s d) t = .inr p := by unfold slot; rw [List.getD_eq_getElem?_getD, List.getElem?_eq_getElem ht, e]; rfl
      have := h.live t p ht hs
      show fv p.2 (β p.1) = fv p.2 (bup β m.length q p.1)
      rw [bup_old β this]
/-- Slots that stand for blocks which are there. -/
theorem St.putr (h : St W (ov s d) m β a w) (t b : Nat) (fm : Fm) (hb : b < m.length) : St W (ov s ((t, .inr (b, fm)) :: d)) m β (a.put (some t) (fv fm (β b))) w := by
  refine ⟨?_, h.bel, h.row, h.old, h.inj, ?_, h.pin⟩
  · rw [h.tm]; exact tm_put rfl
  · intro i p hi hs
    rw [ov_len] at hi
    rw [slot_ov hi] at hs
    have hs : (bif Nat.beq t i then .inr (b, fm) else lk d i s) = Sum.inr p := hs
    cases hbq : Nat.beq t i with
    | true => rw [hbq] at hs; cases hs; exact hb
    | false => rw [hbq] at hs; exact h.live i p (by rw [ov_len]; exact hi) (by rw [slot_ov hi]; exact hs)
theorem St.putl (h : St W (ov s d) m β a w) (t : Nat) (v : Value) : St W (ov s ((t, .inl v) :: d)) m β (a.put (some t) v) w := by
  refine ⟨?_, h.bel, h.row, h.old, h.inj, ?_, h.pin⟩
  · rw [h.tm]; exact tm_put rfl
  · intro i p hi hs
    rw [ov_len] at hi
    rw [slot_ov hi] at hs
    have hs : (bif Nat.beq t i then .inl v else lk d i s) = Sum.inr p := hs
    cases hbq : Nat.beq t i with
    | true => rw [hbq] at hs; cases hs
    | false => rw [hbq] at hs; exact h.live i p (by rw [ov_len]; exact hi) (by rw [slot_ov hi]; exact hs)
theorem St.ev (h : St W (ov s d) m β a w) {t : Nat} {v : Value} (ht : Nat.blt t s.length = true) (hs : lk d t s = .inl v) : a.eval (.tmp t) = v := by
  have ht := Nat.le_of_ble_eq_true ht
  rw [h.tm]
  simp only [Act.eval]
  rw [Array.getD_eq_getD_getElem?, List.getElem?_toArray, List.getElem?_map]
  have e1 : (ov s d)[t]? = some (lk d t s) := by simp [ov, show t < s.length from ht]
  rw [e1, hs]; rfl
/-- A slot moved, a call of it that lays a block, the call's answer put into a slot: the block's content is told behind the call. -/
theorem reg_c3 {id : Nat} {o0 o1 o2 : Oper} {t0 d0 d1 d2 : Nat} {f : FuncId} {xs : Array Value} {tys : Array TypeId} {args : Array Operand} (h : St W (ov s d) m β a w) (v0 : Value) (ty : TypeId) (J : Array Value → Nat → Nat → Prop)
    (hc : Calls P f xs w fun e w' => ∃ c q len cap, e = .returned (.slice (some ⟨q, 0, none⟩) len cap) ∧ w.heap.size ≤ q ∧ w'.heap[q]? = some (.cells c ty (0, 0)) ∧ Below w.heap.size w w' ∧ J c len cap)
    (k : ∀ c len cap β a w, J c len cap → St W (ov s ((d2, .inr (m.length, sl 0 len cap)) :: (d1, .inr (m.length, sl 0 len cap)) :: (d0, .inl v0) :: d)) (m ++ [(c, ty)]) β a w → Q .normal a w)
    (p0 : o0.op = .move (.tmp t0)) (g0 : o0.guard = none) (e0 : o0.dst = some d0) (p1 : o1.op = .call { callee := .value (.func f), args := args, argTypes := tys }) (g1 : o1.guard = none) (e1 : o1.dst = some d1) (p2 : o2.op = .assign (.tmp d1)) (g2 : o2.guard = none) (e2 : o2.dst = some d2)
    (ht : Nat.blt t0 s.length = true := by kernel_rfl) (hv : lk d t0 s = .inl v0 := by kernel_rfl) (ht1 : Nat.blt d1 s.length = true := by kernel_rfl)
    (hxs : ∀ a' : Act, a'.eval (.tmp d0) = v0 → args.map a'.eval = xs) (ht0 : Nat.blt d0 s.length = true := by kernel_rfl) (he : ∀ w, (callFunc f xs).run P w = .ok (.enter f xs) w := by intro w; kernel_rfl) : (Code.region id [o0, o1, o2].toArray false).wp P Q a w := by
  refine wp_region_lit ?_
  refine wpList_plain g0 fun K hK => ?_
  unfold Oper.wp
  simp only [execOp, p0, h.ev ht hv, e0, Sem.run_pure, Oper.upon_value]
  refine hK _ _ ?_
  have h1 := h.putl d0 v0
  refine wpList_plain g1 fun K hK => ?_
  have hmap := hxs _ (h1.ev (t := d0) (v := v0) ht0 (by show (bif Nat.beq d0 d0 then _ else _) = _; rw [Nat.beq_refl]; rfl))
  have hev : ∀ a : Act, a.eval (.func f) = .func (.func f) #[] #[] := fun _ => rfl
  unfold Oper.wp execOp
  simp only [p1, resolve, invoke, Sem.run_bind, hmap, hev, Deferred.ofValue, Sem.run_pure, Result.andThen_ok, Array.append_empty, Array.empty_append, he, Oper.upon_enter]
  refine hc.mono ?_
  rintro e w' ⟨c, q, len, cap, rfl, hq, hr, hb, hJ⟩
  refine hK _ _ ?_
  obtain ⟨h2, ea⟩ := h1.grown hq hr hb
  rw [ea, e1]
  have h3 := h2.putr d1 m.length (sl 0 len cap) (by simp)
  rw [bup_new] at h3
  have h3 : St W _ _ _ (Act.put _ (some d1) (.slice (some ⟨q, 0, none⟩) len cap)) w' := h3
  refine wpList_plain g2 fun K hK => ?_
  have hv2 : (Act.put { tmps := ((ov s ((d0, .inl v0) :: d)).map (den (bup β m.length q))).toArray, defers := [] } (some d1) (.slice (some ⟨q, 0, none⟩) len cap)).eval (.tmp d1) = .slice (some ⟨q, 0, none⟩) len cap := by
    rw [h3.tm]
    simp only [Act.eval]
    rw [Array.getD_eq_getD_getElem?, List.getElem?_toArray, List.getElem?_map]
    have ht1 := Nat.le_of_ble_eq_true ht1
    have e1 : ∀ d : List (Nat × SV), (ov s d)[d1]? = some (lk d d1 s) := fun d => by simp [ov, show d1 < s.length from ht1]
    rw [e1]
    show den _ (bif Nat.beq d1 d1 then Sum.inr (m.length, sl 0 len cap) else _) = _
    rw [Nat.beq_refl, cond_true]
    show fv (sl 0 len cap) (bup β m.length q m.length) = _
    rw [bup_new]; rfl
  unfold Oper.wp
  simp only [execOp, p2, hv2, e2, Sem.run_pure, Oper.upon_value]
  refine hK _ _ (wpList_nil ?_)
  have h4 := h3.putr d2 m.length (sl 0 len cap) (by simp)
  rw [bup_new] at h4
  exact k c len cap _ _ _ hJ h4
/-- The state behind a round, where blocks that it laid are forgotten. -/
theorem St.jd {n : Nat} (h : St W (ov s d) m β a w) (idx : List Nat) (vals : List SV) (m' : List Blk) (hm : m.take m'.length = m') (hl : liveB vals m'.length = true) (e : idx.map (fun i => lk d i s) = vals) (hn : Nat.beq s.length n = true) (hpn : ∀ b q, W.pn b = some q → b < m'.length) : ∃ x, St W (ov (jk n x) (idx.zip vals)) m' β a w := by
  subst e
  have hn := Nat.beq_eq.mp hn
  let g : SV → SV := fun v => match v with
    | .inl v => .inl v
    | .inr p => bif Nat.blt p.1 m'.length then .inr p else .inl (fv p.2 (β p.1))
  have hg : ∀ v, den β (g v) = den β v := by
    intro v
    cases v with
    | inl v => rfl
    | inr p => show den β (bif Nat.blt p.1 m'.length then _ else _) = _; cases Nat.blt p.1 m'.length <;> rfl
  have hgl : ∀ v p, g v = .inr p → p.1 < m'.length := by
    intro v p hv
    cases v with
    | inl v => cases hv
    | inr r =>
      have hv : (bif Nat.blt r.1 m'.length then Sum.inr r else .inl (fv r.2 (β r.1))) = (Sum.inr p : SV) := hv
      cases hb : Nat.blt r.1 m'.length with
      | true => rw [hb] at hv; cases hv; exact Nat.le_of_ble_eq_true hb
      | false => rw [hb] at hv; cases hv
  have hfix : ∀ i ∈ idx, g (lk d i s) = lk d i s := by
    intro i hi
    have h1 := List.all_eq_true.1 hl (lk d i s) (List.mem_map.2 ⟨i, hi, rfl⟩)
    cases hv : lk d i s with
    | inl v => rfl
    | inr p =>
      rw [hv] at h1
      show (bif Nat.blt p.1 m'.length then _ else _) = _
      rw [show Nat.blt p.1 m'.length = true from h1]; rfl
  have hmap : idx.map (fun i => lk d i s) = idx.map (fun i => g (lk d i s)) := List.map_congr_left fun i hi => (hfix i hi).symm
  refine ⟨fun t => g (lk d t s), ?_⟩
  rw [hmap]
  have e : ov (jk n fun t => g (lk d t s)) (idx.zip (idx.map fun i => g (lk d i s))) = (ov s d).map g := by
    have hl : (jk n fun t => g (lk d t s)).length = s.length := by simp [jk, hn]
    unfold ov
    rw [hl, List.map_map]
    refine List.map_congr_left fun t ht => ?_
    refine lk_zip (fun t => g (lk d t s)) t ?_ idx
    have ht : t < n := by rw [← hn]; simpa using ht
    simp [slot, jk, ht]
  rw [e]
  have hlen : m'.length ≤ m.length := by
    have := congrArg List.length hm
    rw [List.length_take] at this
    omega
  have hget : ∀ (b : Nat) (c : Blk), m'[b]? = some c → m[b]? = some c := by
    intro b c hc
    rw [← hm] at hc
    rw [List.getElem?_take] at hc
    split at hc
    · exact hc
    · cases hc
  refine ⟨?_, h.bel, fun b c hc => h.row b c (hget b c hc), fun b hb => h.old b (by omega), fun b c hb hc => h.inj b c (by omega) (by omega), ?_, fun b q hb => ⟨hpn b q hb, (h.pin b q hb).2⟩⟩
  · rw [h.tm, List.map_map]
    congr 2
    exact List.map_congr_left fun x _ => (hg x).symm
  · intro t p ht hs
    have hmem : slot ((ov s d).map g) t ∈ (ov s d).map g := by
      unfold slot
      rw [List.getD_eq_getElem?_getD, List.getElem?_eq_getElem ht]
      exact List.getElem_mem ht
    rw [hs] at hmem
    obtain ⟨v, _, hv⟩ := List.mem_map.1 hmem
    exact hgl v p hv
end
end Go.Proofs.YtgnmnoadfjdjdaaDoor

namespace Go.Proofs.YtgnmnoadfjdjdaaDoor.Sh
open Go.RowKit

theorem bkH_lt {H f : Nat → Nat} (hH : ∀ i, H i < B32) : ∀ k i, bkH H f k i < B32
  | 0, i => hH i
  | k + 1, i => mixH_lt (bkH_lt hH k) i
/-- The words of the rounds, so many of them laid. -/
def rT (p : Nat → Nat) (t : Nat) : Nat → Nat := if t ≤ 16 then r16 p t else r80 p (t - 16)
theorem rT_lo {p : Nat → Nat} {t : Nat} (h : t ≤ 16) : rT p t = r16 p t := if_pos h
theorem rT_hi (p : Nat → Nat) (k : Nat) : rT p (16 + k) = r80 p k := by
  unfold rT
  rcases k with _ | k
  · rw [if_pos (by omega)]; rfl
  · rw [if_neg (by omega), show 16 + (k + 1) - 16 = k + 1 by omega]
theorem rT_s (p : Nat → Nat) {t : Nat} (h : 16 ≤ t) : rT p (t + 1) = updN (rT p t) t ((((loW (rT p t (t - 2)) 17 19 10 + rT p t (t - 7)) % B32 + loW (rT p t (t - 15)) 7 18 3) % B32 + rT p t (t - 16)) % B32) := by
  obtain ⟨n, rfl⟩ : ∃ n, t = 16 + n := ⟨t - 16, by omega⟩
  rw [show 16 + n + 1 = 16 + (n + 1) by omega, rT_hi, rT_hi]
  rfl
theorem rT_lt {p : Nat → Nat} (hp : ∀ i, p i < 256) (t i : Nat) : rT p t i < B32 := by
  unfold rT
  split
  · exact r16_lt hp _ _
  · exact r80_lt hp _ _
/-- The k-th piece. -/
def pk (F : Nat → Nat) (k i : Nat) : Nat := F (64 * k + i)
section
variable {x u : Operand}
theorem mul_w {m n : Nat} (w : World) : (do eqGuard .mul 98 x u (.int .u32 ((m : Nat) : Int)) (.int .u32 ((n : Nat) : Int)); binOp .mul 98 (.int .u32 ((m : Nat) : Int)) (.int .u32 ((n : Nat) : Int))).run Tryd.prog w = .ok (.int .u32 ((m * n % B32 : Nat) : Int)) w := by
  simp [eqGuard, binOp, go_sem, w32, B32_i]
theorem sb_m {n : Nat} (hn : n < B32) (w : World) : (do eqGuard .sub 98 x u (.int .u32 ((4294967295 : Nat) : Int)) (.int .u32 ((n : Nat) : Int)); binOp .sub 98 (.int .u32 ((4294967295 : Nat) : Int)) (.int .u32 ((n : Nat) : Int))).run Tryd.prog w = .ok (.int .u32 ((4294967295 - n : Nat) : Int)) w := by
  have h : IntKind.u32.wrap (4294967295 - (n : Int)) = ((4294967295 - n : Nat) : Int) := by
    rw [w32]; unfold B32 at hn; omega
  simp [eqGuard, binOp, go_sem, h]
theorem sr_wu {m r : Nat} (hr : r ≤ 32) (w : World) : (do eqGuard .shr 98 x u (.int .u32 ((m : Nat) : Int)) (.int .u64 ((r : Nat) : Int)); binOp .shr 98 (.int .u32 ((m : Nat) : Int)) (.int .u64 ((r : Nat) : Int))).run Tryd.prog w = .ok (.int .u32 ((m / 2 ^ r : Nat) : Int)) w := by
  simp [eqGuard, binOp, go_sem]
theorem sr_qu {m r : Nat} (hr : r ≤ 64) (w : World) : (do eqGuard .shr 102 x u (.int .u64 ((m : Nat) : Int)) (.int .u64 ((r : Nat) : Int)); binOp .shr 102 (.int .u64 ((m : Nat) : Int)) (.int .u64 ((r : Nat) : Int))).run Tryd.prog w = .ok (.int .u64 ((m / 2 ^ r : Nat) : Int)) w := by
  simp [eqGuard, binOp, go_sem]
end
theorem cv_iu {n : Nat} (h : n < 1000) (w : World) : (convert 3 44 (.int .i64 ((n : Nat) : Int))).run Tryd.prog w = .ok (.int .u64 ((n : Nat) : Int)) w := by
  have h1 : IntKind.u64.wrap (n : Int) = ((n : Nat) : Int) := by rw [w64]; omega
  simp [convert, go_sem, h1]
theorem al8 (w : World) : (Instr.alloc 99 true (.tuple #[])).run Tryd.prog w = .ok (.pointer (some ⟨w.heap.size, 0, none⟩)) (w.alloc (.cells (aw 8 fun _ => 0) 99)) := by
  have e : (zeroValue 99).run Tryd.prog w = .ok (.agg (aw 8 fun _ => 0)) w := by kernel_rfl
  simp only [Instr.alloc, Sem.run_bind, e, Result.andThen_ok]
  rfl
theorem al64 (w : World) : (Instr.alloc 104 true (.tuple #[])).run Tryd.prog w = .ok (.pointer (some ⟨w.heap.size, 0, none⟩)) (w.alloc (.cells (aw 64 fun _ => 0) 104)) := by
  have e : (zeroValue 104).run Tryd.prog w = .ok (.agg (aw 64 fun _ => 0)) w := by kernel_rfl
  simp only [Instr.alloc, Sem.run_bind, e, Result.andThen_ok]
  rfl
theorem alS (w : World) : (Instr.alloc 34 true (.tuple #[])).run Tryd.prog w = .ok (.pointer (some ⟨w.heap.size, 0, none⟩)) (w.alloc (.cells (ab 32 fun _ => 0) 34)) := by
  have e : (zeroValue 34).run Tryd.prog w = .ok (.agg (ab 32 fun _ => 0)) w := by kernel_rfl
  simp only [Instr.alloc, Sem.run_bind, e, Result.andThen_ok]
  rfl
theorem ld8a {F : Nat → Nat} (t0 : TypeId) (w : World) (q : Nat) (h : w.heap[q]? = some (.cells (aw 8 F) t0 (0, 0))) : (Instr.loadAt 99 (.pointer (some ⟨q, 0, none⟩))).run Tryd.prog w = .ok (.agg (aw 8 F)) w :=
  ld_row (c := aw 8 F) Tryd.underlying99 rfl (by rw [aw_size]; kernel_rfl) w q h
theorem st8a {F : Nat → Nat} {c : Array Value} (t0 : TypeId) (hc : c.size = 8) (w : World) (q : Nat) (h : w.heap[q]? = some (.cells c t0 (0, 0))) : (Instr.storeAt 99 (.pointer (some ⟨q, 0, none⟩)) (.agg (aw 8 F))).run Tryd.prog w = .ok () (w.setRow q (aw 8 F)) :=
  st_row (n := aw 8 F) (by rw [aw_size]; kernel_rfl) (by rw [hc, aw_size]) (aw_one _ _) w q h
theorem ldS {F : Nat → Nat} (t0 : TypeId) (w : World) (q : Nat) (h : w.heap[q]? = some (.cells (ab 32 F) t0 (0, 0))) : (Instr.loadAt 34 (.pointer (some ⟨q, 0, none⟩))).run Tryd.prog w = .ok (.agg (ab 32 F)) w :=
  ld_row (c := ab 32 F) Tryd.underlying34 rfl (by rw [ab_size]; kernel_rfl) w q h
theorem stS {F : Nat → Nat} {c : Array Value} (t0 : TypeId) (hc : c.size = 32) (w : World) (q : Nat) (h : w.heap[q]? = some (.cells c t0 (0, 0))) : (Instr.storeAt 34 (.pointer (some ⟨q, 0, none⟩)) (.agg (ab 32 F))).run Tryd.prog w = .ok () (w.setRow q (ab 32 F)) :=
  st_row (n := ab 32 F) (by rw [ab_size]; kernel_rfl) (by rw [hc, ab_size]) (ab_one _ _) w q h
theorem ix8h {i : Nat} (hi : i < 8) (w : World) (q : Nat) : (Instr.indexAt 99 (.pointer (some ⟨q, 0, none⟩)) (.int .i64 ((i : Nat) : Int))).run Tryd.prog w = .ok (.pointer (some ⟨q, i, none⟩)) w := by
  simp [Instr.indexAt, go_sem, hi, addr_add]
theorem ix64 {i : Nat} (hi : i < 64) (w : World) (q : Nat) : (Instr.indexAt 104 (.pointer (some ⟨q, 0, none⟩)) (.int .i64 ((i : Nat) : Int))).run Tryd.prog w = .ok (.pointer (some ⟨q, i, none⟩)) w := by
  simp [Instr.indexAt, go_sem, hi, addr_add]
theorem ixS {i : Nat} (hi : i < 32) (w : World) (q : Nat) : (Instr.indexAt 34 (.pointer (some ⟨q, 0, none⟩)) (.int .i64 ((i : Nat) : Int))).run Tryd.prog w = .ok (.pointer (some ⟨q, i, none⟩)) w := by
  simp [Instr.indexAt, go_sem, hi, addr_add]
theorem ix_pq {off n c i : Nat} (hi : i < n) (w : World) (q : Nat) : (Instr.indexAt 100 (fv (sl off n c) q) (.int .i64 ((i : Nat) : Int))).run Tryd.prog w = .ok (.pointer (some ⟨q, off + i, none⟩)) w := by
  simp [fv, Instr.indexAt, go_sem, hi]
/-- A byte of the text filled up. -/
theorem ld_pb {c : Array Value} {M k off i : Nat} {F : Nat → Nat} {t0 : TypeId} (hc : ∀ i, i < M → c[i]? = some (.int .u8 ((F i : Nat) : Int))) (hi : off = 64 * k + i) (hM : off < M) (w : World) (q : Nat) (h : w.heap[q]? = some (.cells c t0 (0, 0))) : (Instr.loadAt 5 (.pointer (some ⟨q, off, none⟩))).run Tryd.prog w = .ok (.int .u8 ((pk F k i : Nat) : Int)) w := by
  have h1 : w.cell? ⟨q, off, none⟩ = some (.int .u8 ((pk F k i : Nat) : Int)) := by
    rw [cell_of_row _ _ _ _ _ _ h]
    show c[off]? = _
    rw [hc off hM, hi]; rfl
  simp [Instr.loadAt, Instr.sureAddr, go_sem, h1]
theorem right_k {x n : Nat} (hx : x < B32) (hn : n ≤ 32) (w : World) : Calls Tryd.prog 68 #[.int .u32 ((x : Nat) : Int), .int .u64 ((n : Nat) : Int)] w fun e w' => e = .returned (.int .u32 ((tu x n : Nat) : Int)) ∧ Below w.heap.size w w' :=
  (right_r hx hn w).mono fun e w' h => ⟨h.1, by rw [h.2]; exact Below.refl _ _⟩
theorem roots_k (w : World) : Calls Tryd.prog 65 #[] w fun e w' => ∃ q, e = .returned (fv (sl 0 8 8) q) ∧ w.heap.size ≤ q ∧ w'.heap[q]? = some (.cells (au 8 sq) 102 (0, 0)) ∧ Below w.heap.size w w' :=
  (roots_r w).mono fun _ _ h => ⟨_, h.1, Nat.le_refl _, h.2.1, h.2.2⟩
theorem table_k (w : World) : Calls Tryd.prog 66 #[] w fun e w' => ∃ q, e = .returned (fv (sl 0 80 80) q) ∧ w.heap.size ≤ q ∧ w'.heap[q]? = some (.cells (au 80 cu) 102 (0, 0)) ∧ Below w.heap.size w w' :=
  (table_r w).mono fun _ _ h => ⟨_, h.1, Nat.le_refl _, h.2.1, h.2.2⟩
theorem um_lt (n : Nat) : 4294967295 - n < B32 := by unfold B32; omega
theorem sq_hi (i : Nat) : sq i / 2 ^ 32 < 4294967296 := by have := sq_lt i; omega
theorem cu_hi (i : Nat) : cu i / 2 ^ 32 < 4294967296 := by have := cu_lt i; omega
/-! Turns of what blocks hold. -/
theorem bw_s {p F : Nat → Nat} {t j : Nat} (hp : ∀ i, p i < 256) : aw 64 (updN (bwF p F t j) t ((bwF p F t j t * 256 % B32 + p (t * 4 + j)) % B32)) = aw 64 (bwF p F t (j + 1)) := by
  have h1 := byte_add (x := bwF p F t j t) (hp (t * 4 + j))
  have h2 : bwF p F t j t * 2 ^ 8 % B32 ||| p (t * 4 + j) < B32 := or_lt (mod_B _) (b256 (hp _))
  rw [h1, Nat.mod_eq_of_lt h2]
  rfl
theorem rT_z (p : Nat → Nat) {t : Nat} (h : t < 16) : aw 64 (rT p t) = aw 64 (bwF p (r16 p t) t 0) := by rw [rT_lo (by omega)]; rfl
theorem rT_e (p : Nat → Nat) {t : Nat} (h : t < 16) : aw 64 (bwF p (r16 p t) t 4) = aw 64 (rT p (t + 1)) := by rw [rT_lo (by omega)]; rfl
theorem rT_n (p : Nat → Nat) {t : Nat} (h : 16 ≤ t) : aw 64 (updN (rT p t) t ((((((tu (rT p t (t - 2)) 17 ^^^ tu (rT p t (t - 2)) 19) ^^^ rT p t (t - 2) / 2 ^ 10) + rT p t (t - 7)) % B32 + ((tu (rT p t (t - 15)) 7 ^^^ tu (rT p t (t - 15)) 18) ^^^ rT p t (t - 15) / 2 ^ 3)) % B32 + rT p t (t - 16)) % B32)) = aw 64 (rT p (t + 1)) := by
  rw [rT_s p h]; rfl
theorem rT_0 (p : Nat → Nat) : aw 64 (fun _ => 0) = aw 64 (rT p 0) := by rw [rT_lo (by omega)]; rfl
/-- Eight words. -/
def g8 (a b c d e f g h i : Nat) : Nat := match i with
  | 0 => a
  | 1 => b
  | 2 => c
  | 3 => d
  | 4 => e
  | 5 => f
  | 6 => g
  | _ => h
theorem vS_n {H R : Nat → Nat} (hH : ∀ i, H i < B32) (t : Nat) (one two : Nat) (h1 : one = (((((vS H R t 7 + ((tu (vS H R t 4) 6 ^^^ tu (vS H R t 4) 11) ^^^ tu (vS H R t 4) 25)) % B32 + ((vS H R t 4 &&& vS H R t 5) + ((4294967295 - vS H R t 4) &&& vS H R t 6)) % B32) % B32 + cu t / 2 ^ 32) % B32 + R t) % B32))
    (h2 : two = ((((tu (vS H R t 0) 2 ^^^ tu (vS H R t 0) 13) ^^^ tu (vS H R t 0) 22) + (((vS H R t 0 &&& vS H R t 1) ||| (vS H R t 0 &&& vS H R t 2)) ||| (vS H R t 1 &&& vS H R t 2))) % B32)) :
    aw 8 (g8 ((one + two) % B32) (vS H R t 0) (vS H R t 1) (vS H R t 2) ((vS H R t 3 + one) % B32) (vS H R t 4) (vS H R t 5) (vS H R t 6)) = aw 8 (vS H R (t + 1)) := by
  rw [ch_add (vS_lt hH t 4) (vS_lt hH t 5) (vS_lt hH t 6)] at h1
  have e0 := vS_s0 H R t
  have e4 := vS_s4 H R t
  refine arr_congr fun i hi => ?_
  have h : i = 0 ∨ i = 1 ∨ i = 2 ∨ i = 3 ∨ i = 4 ∨ i = 5 ∨ i = 6 ∨ i = 7 := by omega
  have hw : ∀ m n : Nat, m = n → Value.int .u32 ((m : Nat) : Int) = Value.int .u32 ((n : Nat) : Int) := fun m n h => by rw [h]
  rcases h with rfl | rfl | rfl | rfl | rfl | rfl | rfl | rfl
  · refine hw _ _ ?_
    rw [← e0, h1, h2]; rfl
  · exact hw _ _ (vS_s1 H R t)
  · exact hw _ _ (vS_s2 H R t)
  · exact hw _ _ (vS_s3 H R t)
  · refine hw _ _ ?_
    rw [← e4, h1]; rfl
  · exact hw _ _ (vS_s5 H R t)
  · exact hw _ _ (vS_s6 H R t)
  · exact hw _ _ (vS_s7 H R t)
theorem bk_n (F : Nat → Nat) (k : Nat) : aw 8 (hF (bkH (bgF 8) F k) (vS (bkH (bgF 8) F k) (rT (pk F k) 64) 64) 8) = aw 8 (bkH (bgF 8) F (k + 1)) := by
  rw [show rT (pk F k) 64 = r80 (pk F k) 48 from rT_hi _ 48]; rfl
/-- The answer's bytes, so many of them laid. -/
def oF (H : Nat → Nat) (k i : Nat) : Nat := if i < k then H (i / 4) / 256 ^ (3 - i % 4) % 256 else 0
theorem oF_0 (H : Nat → Nat) : ab 32 (fun _ => 0) = ab 32 (oF H 0) := arr_congr fun i _ => by unfold oF; rw [if_neg (by omega)]
theorem oF_n (H : Nat → Nat) (k : Nat) : ab 32 (updN (oF H k) k (H (k / 4) / 2 ^ (8 * (3 - k % 4)) % 256)) = ab 32 (oF H (k + 1)) := arr_congr fun i _ => by
  have e : 2 ^ (8 * (3 - k % 4)) = 256 ^ (3 - k % 4) := by rw [Nat.pow_mul]
  rw [e]
  unfold updN oF
  by_cases h : i = k
  · subst h; rw [if_pos rfl, if_pos (by omega)]
  · rw [if_neg h]
    by_cases h1 : i < k
    · rw [if_pos h1, if_pos (by omega)]
    · rw [if_neg h1, if_neg (by omega)]
theorem oF_e (H : Nat → Nat) : ab 32 (oF H 32) = ab 32 (outF (fun _ => 0) H 8) := arr_congr fun i hi => by
  unfold oF
  rw [if_pos hi, outF_e 8 i (by omega)]
theorem st_abS {N i v : Nat} {F : Nat → Nat} {t0 : TypeId} (hi : i < N) (w : World) (q : Nat) (h : w.heap[q]? = some (.cells (ab N F) t0 (0, 0))) : (Instr.storeAt 5 (.pointer (some ⟨q, i, none⟩)) (.int .u8 ((v : Nat) : Int))).run Tryd.prog w = .ok () (w.setRow q (ab N (updN F i v))) := st_ab hi w q h
end Go.Proofs.YtgnmnoadfjdjdaaDoor.Sh

/- N7, N8, A, N9, N10, N11, N12, V3, SG1, SG4, SgR, SgS, SgB, SG5, SG7, Q2, Q3, ManyR, Z1: laid together. -/
import Derived.Deep.RegionLaw
import Derived.Deep.Cut
import Derived.Deep.CutRange
import Derived.Deep.RegionWith
import Derived.Deep.QuietTactic
import Derived.BigQuiet
import Derived.BigRegion
import Derived.Handy
import Derived.Laws.Externs
import Derived.Shelf.Spec.BitsCarry
import Derived.Lib.Mul64
import Derived.Shelf.Bits.Mul64
import Derived.Deep.MidRow
import Derived.Lib.AppendZeros
import Derived.RangeFuncNested
import Derived.RangeFuncBound
import Derived.RangeFuncCalls
import Derived.RangeFuncLeaves
import Derived.Shelf.Abstract
import Derived.Shelf.RegionOpen
import Derived.WalkKit
import Derived.OwnWalkIn
import Derived.TacticsInMore
import Derived.LoopNIn
import Derived.LoopIn
import Derived.Laws.Rows
import Derived.Test.YtgojlikjcpnhjaaDoorG2
import Derived.Test.YtgojlikjcpnhjaaDoorRows
import Derived.Test.YtgojlikjcpnhjaaDoorG1
namespace Go.Proofs.YtgojlikjcpnhjaaDoor.Lo
open Go.RowKit

/-- Words, piece, how much of it is filled: one byte is taken. -/
def a1 (s : (Nat → Nat) × (Nat → Nat) × Nat) (c : Nat) : (Nat → Nat) × (Nat → Nat) × Nat :=
  if s.2.2 + 1 = 128 then (mixH s.1 (updN s.2.1 s.2.2 c), updN s.2.1 s.2.2 c, 0) else (s.1, updN s.2.1 s.2.2 c, s.2.2 + 1)
/-- So many bytes are taken. -/
def aS (s : (Nat → Nat) × (Nat → Nat) × Nat) (f : Nat → Nat) : Nat → (Nat → Nat) × (Nat → Nat) × Nat
  | 0 => s
  | k + 1 => a1 (aS s f k) (f k)
theorem cpF_0 (p : Nat → Nat) (fl : Nat) (f : Nat → Nat) : cpF p fl f 0 = p := by
  funext i; unfold cpF; rw [if_neg (by omega)]
theorem cpF_s (p : Nat → Nat) (fl : Nat) (f : Nat → Nat) (k : Nat) : cpF p fl f (k + 1) = updN (cpF p fl f k) (fl + k) (f k) := by
  funext i
  unfold cpF updN
  by_cases h : i = fl + k
  · subst h; rw [if_pos (by omega), if_pos rfl, show fl + k - fl = k by omega]
  · rw [if_neg h]
    show _ = if fl ≤ i ∧ i < fl + k then f (i - fl) else p i
    by_cases h1 : fl ≤ i ∧ i < fl + k
    · rw [if_pos h1, if_pos (by omega)]
    · rw [if_neg h1, if_neg (by omega)]
theorem aS_run (H p : Nat → Nat) (fl : Nat) (f : Nat → Nat) : ∀ k, fl + k < 128 → aS (H, p, fl) f k = (H, cpF p fl f k, fl + k)
  | 0, _ => by rw [cpF_0]; rfl
  | k + 1, h => by
    show a1 (aS (H, p, fl) f k) (f k) = _
    rw [aS_run H p fl f k (by omega)]
    unfold a1
    rw [if_neg (by show ¬ fl + k + 1 = 128; omega), cpF_s]
    rfl
theorem aS_full (H p : Nat → Nat) (fl : Nat) (f : Nat → Nat) {k : Nat} (hk : 0 < k) (h : fl + k = 128) : aS (H, p, fl) f k = (mixH H (cpF p fl f k), cpF p fl f k, 0) := by
  obtain ⟨j, rfl⟩ : ∃ j, k = j + 1 := ⟨k - 1, by omega⟩
  show a1 (aS (H, p, fl) f j) (f j) = _
  rw [aS_run H p fl f j (by omega)]
  unfold a1
  rw [if_pos (by show fl + j + 1 = 128; omega), cpF_s]
theorem aS_add (s : (Nat → Nat) × (Nat → Nat) × Nat) (f : Nat → Nat) (j : Nat) : ∀ k, aS s f (j + k) = aS (aS s f j) (fun i => f (j + i)) k
  | 0 => rfl
  | k + 1 => by
    show a1 (aS s f (j + k)) (f (j + k)) = a1 (aS (aS s f j) (fun i => f (j + i)) k) (f (j + k))
    rw [aS_add s f j k]
theorem aS_fl {s : (Nat → Nat) × (Nat → Nat) × Nat} {f : Nat → Nat} (h : s.2.2 < 128) : ∀ k, (aS s f k).2.2 < 128
  | 0 => h
  | k + 1 => by
    have ih := aS_fl (f := f) h k
    show (a1 (aS s f k) (f k)).2.2 < 128
    unfold a1
    split
    · show 0 < 128; omega
    · show (aS s f k).2.2 + 1 < 128; omega
theorem aS_H {s : (Nat → Nat) × (Nat → Nat) × Nat} {f : Nat → Nat} (h : ∀ i, s.1 i < B64) : ∀ k i, (aS s f k).1 i < B64
  | 0, i => h i
  | k + 1, i => by
    have ih := aS_H (f := f) h k
    show (a1 (aS s f k) (f k)).1 i < B64
    unfold a1
    split
    · exact mixH_lt ih i
    · exact ih i
theorem aS_p {s : (Nat → Nat) × (Nat → Nat) × Nat} {f : Nat → Nat} (h : ∀ i, s.2.1 i < 256) (hf : ∀ i, f i < 256) : ∀ k i, (aS s f k).2.1 i < 256
  | 0, i => h i
  | k + 1, i => by
    have ih := aS_p h hf k
    have hu : ∀ i, updN (aS s f k).2.1 (aS s f k).2.2 (f k) i < 256 := fun i => by
      unfold updN; split
      · exact hf k
      · exact ih i
    show (a1 (aS s f k) (f k)).2.1 i < 256
    unfold a1
    split
    · exact hu i
    · exact hu i
end Go.Proofs.YtgojlikjcpnhjaaDoor.Lo

namespace Go.Proofs.YtgojlikjcpnhjaaDoor.Lo
open Go.RowKit

theorem set_ln (H p : Nat → Nat) (fl ln v : Nat) : (dgc H p fl ln).setIfInBounds 151 (.int .u64 ((v : Nat) : Int)) = dgc H p fl v := by
  unfold dgc
  rw [arr_set]
  refine arr_congr fun j hj => ?_
  unfold upd dgv
  by_cases e : j = 151
  · subst e; simp
  · rw [if_neg e]
    repeat' split
    all_goals first | rfl | omega
theorem set_fl (H p : Nat → Nat) (fl ln v : Nat) : (dgc H p fl ln).setIfInBounds 150 (.int .i64 ((v : Nat) : Int)) = dgc H p v ln := by
  unfold dgc
  rw [arr_set]
  refine arr_congr fun j hj => ?_
  unfold upd dgv
  by_cases e : j = 150
  · subst e; simp
  · rw [if_neg e]
    repeat' split
    all_goals first | rfl | omega
theorem step_copy {w : World} {ops : Array Oper} {o : Oper} {a : Act} {K : Act → World → Prop} {Q : Exit → Act → World → Prop} {E : Prop} (hgd : o.guard = none) (s x : Operand)
    (ho : o.op = .call { callee := .builtin .copy, args := #[s, x], argTypes := #[24, 24] }) {H p f : Nat → Nat} {fl0 ln fl n c len cap q : Nat} {aa : Option Addr} {t0 : TypeId}
    (hs : a.eval s = .slice (some ⟨q, 22 + fl, none⟩) n c) (hx : a.eval x = .slice aa len cap) (hl : 0 < len) (hf : fl + n ≤ 128) (hb : Bs w aa len f) (hq : w.heap[q]? = some (.cells (dgc H p fl0 ln) t0 (0, 0)))
    (h : K (a.put o.dst (.int .i64 ((Nat.min len n : Nat) : Int))) (w.setRow q (dgc H (cpF p fl f (Nat.min len n)) fl0 ln))) : if Region.wanted o (yielded ops a.tmps) = true then Oper.wp Tryd.prog o a w K Q else E := by
  have hw : Region.wanted o (yielded ops a.tmps) = true := by simp [Region.wanted, hgd]
  rw [if_pos hw]
  have hr := cp_dg (cap := cap) (c := c) o.type hl hf hb hq
  unfold Oper.wp execOp
  simp only [ho, resolve, invoke, builtin, Sem.run_bind, Sem.run_pure, Result.andThen_ok, List.map_toArray, List.map_cons, List.map_nil, hs, hx, hr]
  exact h
theorem size_e {w : World} {q : Nat} {H p : Nat → Nat} {fl ln : Nat} (hq : w.heap[q]? = some (.cells (dgc H p fl ln) 83 (0, 0))) : Calls Tryd.prog 67 #[.pointer (some ⟨q, 0, none⟩)] w fun e w' => e = .returned (.int .i64 128) ∧ w' = w := by
  have c0 : w.cell? ⟨q, 0, none⟩ = some (.int .i64 64) := dg_cell (i := 0) (by decide) hq
  clear hq
  go_enter Tryd.func67, Tryd.ntmps67
  go_wp2
  go_ret
  exact ⟨rfl, rfl⟩
theorem step_size {w : World} {ops : Array Oper} {o : Oper} {a : Act} {K : Act → World → Prop} {Q : Exit → Act → World → Prop} {E : Prop} (hgd : o.guard = none) (x : Operand) {tys : Array TypeId}
    (ho : o.op = .call { callee := .value (.func 67), args := #[x], argTypes := tys }) {H p : Nat → Nat} {fl ln q : Nat} (hx : a.eval x = .pointer (some ⟨q, 0, none⟩)) (hq : w.heap[q]? = some (.cells (dgc H p fl ln) 83 (0, 0)))
    (h : K (a.put o.dst (.int .i64 128)) w) : if Region.wanted o (yielded ops a.tmps) = true then Oper.wp Tryd.prog o a w K Q else E := by
  have hw : Region.wanted o (yielded ops a.tmps) = true := by simp [Region.wanted, hgd]
  rw [if_pos hw]
  refine oper_callg 67 #[x] tys ho #[.pointer (some ⟨q, 0, none⟩)] (by simp [hx]) (fun w => by kernel_rfl) (size_e hq) ?_
  rintro w' rfl
  exact h
/-- On the way through the bytes: so many of them are taken. -/
structure Tk (W0 wr : World) (q : Nat) (s : (Nat → Nat) × (Nat → Nat) × Nat) (f : Nat → Nat) (len ln c : Nat) (a : Option Addr) (cap : Nat) : Prop where
  le : c ≤ len
  wt : Wrt W0 wr q (dgc (aS s f c).1 (aS s f c).2.1 (aS s f c).2.2 ln) 83
  bs : Bs wr a (len - c) (fun i => f (c + i))
  ne : ∀ x, a = some x → x.block ≠ q
  cp : len - c ≤ cap
theorem gl_wrt {w w' : World} {q : Nat} {H p : Nat → Nat} {fl ln : Nat} {cc : Array Value} {t : TypeId} (h : Gl w) (hq : w.heap[q]? = some (.cells (dgc H p fl ln) 83 (0, 0))) (k : Wrt w w' q cc t) : Gl w' := by
  obtain ⟨n0, n1⟩ := gl_ne h hq
  refine ⟨fun i hi => ?_, fun i hi => ?_⟩
  · have h1 := h.1 i hi
    rw [← h1]
    exact World.cell?_of_block (w := w) (k.block 0 (cell_lt h1) n0.symm)
  · have h1 := h.2 i hi
    rw [← h1]
    exact World.cell?_of_block (w := w) (k.block 1 (cell_lt h1) n1.symm)
set_option maxHeartbeats 4000000 in
set_option maxRecDepth 100000 in
theorem take_d {H p f : Nat → Nat} {fl ln q len cap : Nat} {a : Option Addr} {W0 : World} (hg : Gl W0) (hH : ∀ i, H i < B64) (hp : ∀ i, p i < 256) (hfl : fl < 128) (hb : Bs W0 a len f) (hne : ∀ x, a = some x → x.block ≠ q) (hcap : len ≤ cap) (hlen : len ≤ 1099511627776) (hq : W0.heap[q]? = some (.cells (dgc H p fl ln) 83 (0, 0))) :
    Calls Tryd.prog 45 #[.pointer (some ⟨q, 0, none⟩), .slice a len cap] W0 fun e w' => e = .returned (.tuple #[]) ∧ Wrt W0 w' q (dgc (aS (H, p, fl) f len).1 (aS (H, p, fl) f len).2.1 (aS (H, p, fl) f len).2.2 ((ln + len) % B64)) 83 := by
  have c151 : W0.cell? ⟨q, 151, none⟩ = some (.int .u64 ((ln : Nat) : Int)) := dg_cell (i := 151) (by decide) hq
  have f151 := froz_dg hq 151
  have ew : IntKind.u64.wrap ((ln : Int) + (len : Int)) = (((ln + len) % B64 : Nat) : Int) := by rw [w64, ← B64_i]; simp
  have ew0 : IntKind.u64.wrap (len : Int) = (len : Int) := by rw [w64]; omega
  have hw1 : Wrt W0 (W0.setCell ⟨q, 151, none⟩ (.int .u64 (((ln + len) % B64 : Nat) : Int))) q (dgc H p fl ((ln + len) % B64)) 83 := by
    have := wrt_cell hq 151 (.int .u64 (((ln + len) % B64 : Nat) : Int))
    rwa [set_ln] at this
  generalize hL : (ln + len) % B64 = L at *
  replace hL := hide1 hL
  go_enter Tryd.func45, Tryd.ntmps45
  go_wp2_with fail
  generalize W0.setCell ⟨q, 151, none⟩ (.int .u64 ((L : Nat) : Int)) = w1 at hw1 ⊢
  have hb1 := hb.wrt hw1 hne
  have hfb := hb.1
  clear c151 f151 ew ew0 hb
  go_loopw [1] (fun v wr => ∃ (c : Nat) (a' : Option Addr) (cap' : Nat), v = .slice a' (len - c) cap' ∧ Tk W0 wr q (H, p, fl) f len L c a' cap') (fun v _ => match v with | .slice _ n _ => n | _ => 0)
  case atStart => exact ⟨0, a, cap, rfl, Nat.zero_le _, hw1, by simpa using hb1, hne, hcap⟩
  case round =>
    clear hb1 hw1 hne
    obtain ⟨c, a1, cap1, rfl, hT⟩ := hrel
    have hfl1 : (aS (H, p, fl) f c).2.2 < 128 := aS_fl hfl c
    have hH1 := aS_H (s := (H, p, fl)) (f := f) hH c
    have hle := hT.le
    by_cases hlt : c < len
    · have hbs := hT.bs
      have hp1 := aS_p (s := (H, p, fl)) (f := f) hp hfb c
      have hwt := hT.wt
      have hcp := hT.cp
      have hnq := hT.ne
      have hm0 : 0 < len - c := by omega
      have hadd := fun k => aS_add (H, p, fl) f c k
      clear hT
      generalize aS (H, p, fl) f c = st at *
      obtain ⟨H1, p1, fl1⟩ := st
      simp only at hfl1 hH1 hp1 hwt hadd
      have hq1 := hwt.row
      obtain ⟨n, hn⟩ : ∃ n, n = Nat.min (len - c) (128 - fl1) := ⟨_, rfl⟩
      have hn1 : n ≤ len - c := by rw [hn]; exact Nat.min_le_left _ _
      have hn2 : n ≤ 128 - fl1 := by rw [hn]; exact Nat.min_le_right _ _
      have hn3 : 0 < n := by rw [hn]; exact Nat.lt_min.2 ⟨hm0, by omega⟩
      obtain ⟨a2, hsl2, hb2, hbk⟩ := from_bs (n := n) hbs hm0 hn1 hcp
      have c150 : wr.cell? ⟨q, 150, none⟩ = some (.int .i64 ((fl1 : Nat) : Int)) := dg_cell (i := 150) (by decide) hq1
      have hsl : ∀ w : World, (Instr.sliceAt 81 (.pointer (some ⟨q, 22, none⟩)) (some (.int .i64 ((fl1 : Nat) : Int))) (some (.int .i64 128)) none).run Tryd.prog w = .ok (.slice (some ⟨q, 22 + fl1, none⟩) (128 - fl1) (128 - fl1)) w := fun w => sl_pc (lo := fl1) (hi := 128) (n := 128 - fl1) (c := 128 - fl1) (by omega) (by omega) (by omega) (by omega) w q
      have hw2 := wrt_row (c' := dgc H1 (cpF p1 fl1 (fun i => f (c + i)) n) fl1 L) hq1
      have hne2 : ∀ a' : Option Addr, (∀ x y : Addr, a1 = some x → a' = some y → y.block = x.block) → ∀ y : Addr, a' = some y → y.block ≠ q := fun a' hk y ey => by
        obtain ⟨b, off, e, _⟩ := hbs.2 hm0
        rw [hk _ y e ey]
        exact hnq _ e
      have hn' := hide1 hn
      have hbs' := hide1 hbs
      have hsl' := hsl
      clear hn hbs
      go_wp2_with fail
      go_region_law (first
        | (refine step_size rfl (.tmp 25) rfl (by first | (simp [Act.eval]; done) | (simp [Act.eval, Act.put]; done) | rfl) hq1 ?_)
        | (refine step_copy rfl (.tmp 27) (.tmp 28) rfl (fl := fl1) (n := 128 - fl1) (c := 128 - fl1) (len := len - c) (cap := cap1) (aa := a1) (f := fun i => f (c + i)) (by first | (simp [Act.eval]; done) | (simp [Act.eval, Act.put]; done) | rfl) (by first | (simp [Act.eval]; done) | (simp [Act.eval, Act.put]; done) | rfl) hm0 (by omega) hbs'.out hq1 ?_))
      all_goals
        rw [← hn'.out]
        have hw3 : Wrt W0 (wr.drew.setRow q (dgc H1 (cpF p1 fl1 (fun i => f (c + i)) n) fl1 L)) q (dgc H1 (cpF p1 fl1 (fun i => f (c + i)) n) fl1 L) 83 := hwt.trans ⟨hw2.os, hw2.tape, hw2.output, hw2.size, hw2.block, hw2.row⟩
        have hb3 : Bs (wr.drew.setRow q (dgc H1 (cpF p1 fl1 (fun i => f (c + i)) n) fl1 L)) a2 (len - c - n) (fun i => f (c + (n + i))) := hb2.wrt (w' := wr.drew.setRow q (dgc H1 (cpF p1 fl1 (fun i => f (c + i)) n) fl1 L)) ⟨hw2.os, hw2.tape, hw2.output, hw2.size, hw2.block, hw2.row⟩ (hne2 a2 hbk)
        clear hw2 hb2 c150 hsl hsl' hbs'
        generalize wr.drew.setRow q (dgc H1 (cpF p1 fl1 (fun i => f (c + i)) n) fl1 L) = w2 at hw3 hb3 ⊢
        have d150 : w2.cell? ⟨q, 150, none⟩ = some (.int .i64 ((fl1 : Nat) : Int)) := dg_cell (i := 150) (by decide) hw3.row
        have g150 := froz_dg hw3.row 150
        have hw4 := wrt_cell hw3.row 150 (.int .i64 ((fl1 + n : Nat) : Int))
        rw [set_fl] at hw4
        have ecast : ((fl1 + n : Nat) : Int) = (fl1 : Int) + (n : Int) := by omega
        rw [ecast] at hw4
        go_upto_region 5 with fail
        have hw5 := hw3.trans hw4
        have hb5 := hb3.wrt hw4 (hne2 a2 hbk)
        clear hw3 hw4 hb3 d150 g150
        generalize w2.setCell ⟨q, 150, none⟩ (.int .i64 ((fl1 : Int) + (n : Int))) = w3 at hw5 hb5 ⊢
        have e150 : w3.cell? ⟨q, 150, none⟩ = some (.int .i64 ((fl1 : Int) + (n : Int))) := by rw [← ecast]; exact dg_cell (i := 150) (by decide) hw5.row
        have hsz : ∀ k, Calls Tryd.prog 67 #[.pointer (some ⟨q, 0, none⟩)] (w3.drewN k) fun e w' => e = .returned (.int .i64 128) ∧ w' = w3.drewN k := fun k => size_e (by simpa using hw5.row)
        go_quiet ((go_at_call 67; refine Calls.quiet_of_same (hsz _)))
        have hw6 : Wrt W0 (w3.drewN nq) q (dgc H1 (cpF p1 fl1 (fun i => f (c + i)) n) (fl1 + n) L) 83 := hw5.later (Array.getElem?_eq_some_iff.1 hw5.row).1 (below_dN w3 nq)
        have hb6 := hb5.later (below_dN w3 nq)
        clear hw5 hb5 e150 hsz
        generalize w3.drewN nq = w4 at hw6 hb6 ⊢
        have hml : ∀ i, cpF p1 fl1 (fun i => f (c + i)) n i < 256 := fun i => by
          unfold cpF
          split
          · exact hfb _
          · exact hp1 i
        have elen : len - (c + n) = len - c - n := by omega
        have hcp2 : len - (c + n) ≤ cap1 - n := by omega
        have hfs : (fun i => f (c + n + i)) = fun i => f (c + (n + i)) := by funext i; rw [Nat.add_assoc]
        by_cases hful : fl1 + n = 128
        · have hbq : ((fl1 : Int) + (n : Int) == 128) = true := by simp; omega
          have hmx := mix_d (gl_wrt hg hq hw6) hH1 hml hw6.row
          have hst := (hadd n).trans (aS_full H1 p1 fl1 (fun i => f (c + i)) hn3 hful)
          go_wp2_with fail
          refine hmx.mono ?_
          rintro e w5 ⟨rfl, hw7⟩
          have d150 : w5.cell? ⟨q, 150, none⟩ = some (.int .i64 ((fl1 + n : Nat) : Int)) := dg_cell (i := 150) (by decide) hw7.row
          have g150 := froz_dg hw7.row 150
          have hw8 := wrt_cell hw7.row 150 (.int .i64 ((0 : Nat) : Int))
          rw [set_fl] at hw8
          have hTk : Tk W0 (w5.setCell ⟨q, 150, none⟩ (.int .i64 0)) q (H, p, fl) f len L (c + n) a2 (cap1 - n) := by
            refine ⟨by omega, ?_, ?_, hne2 a2 hbk, hcp2⟩
            · rw [hst]
              exact (hw6.trans hw7).trans hw8
            · rw [elen, hfs]
              exact (hb6.wrt hw7 (hne2 a2 hbk)).wrt hw8 (hne2 a2 hbk)
          clear hmx hw6 hw7 hw8 hb6 hst
          go_wp2
          exact ⟨⟨c + n, a2, cap1 - n, by rw [elen], hTk⟩, by simp; omega⟩
        · have hbq : ((fl1 : Int) + (n : Int) == 128) = false := by simp; omega
          have hst := (hadd n).trans (aS_run H1 p1 fl1 (fun i => f (c + i)) n (by omega))
          have hTk : Tk W0 w4 q (H, p, fl) f len L (c + n) a2 (cap1 - n) := by
            refine ⟨by omega, ?_, ?_, hne2 a2 hbk, hcp2⟩
            · rw [hst]
              exact hw6
            · rw [elen, hfs]
              exact hb6
          clear hw6 hb6 hst
          go_wp2
          exact ⟨⟨c + n, a2, cap1 - n, by rw [elen], hTk⟩, by simp; omega⟩
    · obtain rfl : c = len := by omega
      have hfin := hT.wt
      have e0 : c - c = 0 := by omega
      rw [e0]
      clear hT
      go_wp2
      go_end0
      refine ⟨rfl, ?_⟩
      exact hfin
end Go.Proofs.YtgojlikjcpnhjaaDoor.Lo

namespace Go.Proofs.YtgojlikjcpnhjaaDoor
open Go.RowKit

theorem add64_ex (x y c : Nat) (hx : x < 18446744073709551616) (hy : y < 18446744073709551616) (hc : c ≤ 1) : ∃ s k : Nat, s < 18446744073709551616 ∧ k ≤ 1 ∧ Hid (s + 18446744073709551616 * k = x + y + c) ∧
    ∀ w, (callFunc 51 #[.int .u64 x, .int .u64 y, .int .u64 c]).run Tryd.prog w = .ok (.value (.tuple #[.int .u64 s, .int .u64 k])) w := by
  refine ⟨(x + y + c) % 18446744073709551616, (x + y + c) / 18446744073709551616, by omega, by omega, hide1 (by omega), fun w => ?_⟩
  rw [run_callFunc_extern Tryd.func51 (by kernel_rfl) (by kernel_rfl) (by kernel_rfl) (e := add64Entry) (by kernel_rfl), run_add64 x y c (by omega) (by omega) (by omega) (by omega)]
  simp only [Result.andThen]
  congr 5 <;> omega

theorem add64_ex0 (x y : Nat) (hx : x < 18446744073709551616) (hy : y < 18446744073709551616) : ∃ s k : Nat, s < 18446744073709551616 ∧ k ≤ 1 ∧ Hid (s + 18446744073709551616 * k = x + y) ∧
    ∀ w, (callFunc 51 #[.int .u64 x, .int .u64 y, .int .u64 0]).run Tryd.prog w = .ok (.value (.tuple #[.int .u64 s, .int .u64 k])) w :=
  add64_ex x y 0 hx hy (by omega)

theorem sub64_ex (x y c : Nat) (hx : x < 18446744073709551616) (hy : y < 18446744073709551616) (hc : c ≤ 1) : ∃ s k : Nat, s < 18446744073709551616 ∧ k ≤ 1 ∧ Hid (s + y + c = x + 18446744073709551616 * k) ∧
    ∀ w, (callFunc 52 #[.int .u64 x, .int .u64 y, .int .u64 c]).run Tryd.prog w = .ok (.value (.tuple #[.int .u64 s, .int .u64 k])) w := by
  refine ⟨(x + 18446744073709551616 - y - c) % 18446744073709551616, if x < y + c then 1 else 0, by omega, by split <;> omega, hide1 (by split <;> omega), fun w => ?_⟩
  rw [run_callFunc_extern Tryd.func52 (by kernel_rfl) (by kernel_rfl) (by kernel_rfl) (e := sub64Entry) (by kernel_rfl), run_sub64 x y c hc]
  rfl

theorem wrapN (a : Nat) (ha : a < 18446744073709551616) : IntKind.u64.wrap (a : Int) = (a : Int) := by rw [IntKind.wrap_u64]; omega

set_option maxHeartbeats 1000000 in
theorem mul64 (x y : Nat) (hx : x < 18446744073709551616) (hy : y < 18446744073709551616) (w : World) :
    Calls Tryd.prog 79 #[.int .u64 x, .int .u64 y] w fun e w' => e = .returned (.tuple #[.int .u64 ((x * y / 18446744073709551616 : Nat) : Int), .int .u64 ((x * y % 18446744073709551616 : Nat) : Int)]) ∧ w' = w := by
  obtain ⟨bd, bt, bw, hhi⟩ := Lib.mul64_hi x y hx hy
  have ba := Lib.half_mul_le (a := x / 4294967296) (b := y / 4294967296) (by omega) (by omega)
  have bb := Lib.half_mul_le (a := x / 4294967296) (b := y % 4294967296) (by omega) (by omega)
  have bc := Lib.half_mul_le (a := x % 4294967296) (b := y / 4294967296) (by omega) (by omega)
  have ba' : x / 4294967296 * (y / 4294967296) < 18446744073709551616 := by omega
  have bb' : x / 4294967296 * (y % 4294967296) < 18446744073709551616 := by omega
  have bc' : x % 4294967296 * (y / 4294967296) < 18446744073709551616 := by omega
  have bh1 : x / 4294967296 * (y / 4294967296) + (x / 4294967296 * (y % 4294967296) + x % 4294967296 * (y % 4294967296) / 4294967296) / 4294967296 < 18446744073709551616 := by omega
  have bh : x / 4294967296 * (y / 4294967296) + (x / 4294967296 * (y % 4294967296) + x % 4294967296 * (y % 4294967296) / 4294967296) / 4294967296 + ((x / 4294967296 * (y % 4294967296) + x % 4294967296 * (y % 4294967296) / 4294967296) % 4294967296 + x % 4294967296 * (y / 4294967296)) / 4294967296 < 18446744073709551616 := by omega
  go_enter Tryd.func79, Tryd.ntmps79
  go_wp2
  simp only [Mul64.maskN x hx, Mul64.maskN y hy, Mul64.divN, Mul64.mulN, Mul64.addN, Mul64.wrapN _ bd, Mul64.wrapN _ bb', Mul64.wrapN _ bt, Mul64.maskN _ bt, Mul64.wrapN _ bc', Mul64.wrapN _ bw, Mul64.wrapN _ ba', Mul64.wrapN _ bh1, Mul64.wrapN _ bh, Mul64.wrapM (x * y)]
  rw [hhi]
  go_ret2
  exact ⟨rfl, rfl⟩

theorem mul64_ex (x y : Nat) (hx : x < 18446744073709551616) (hy : y < 18446744073709551616) (w : World) :
    Calls Tryd.prog 79 #[.int .u64 x, .int .u64 y] w fun e w' => ∃ hi lo : Nat, hi < 18446744073709551616 - 1 ∧ lo < 18446744073709551616 ∧ Hid (lo + 18446744073709551616 * hi = x * y) ∧ e = .returned (.tuple #[.int .u64 hi, .int .u64 lo]) ∧ w' = w := by
  refine (mul64 x y hx hy w).mono ?_
  rintro e w' ⟨rfl, rfl⟩
  have hb : x * y ≤ 18446744073709551615 * 18446744073709551615 := Nat.mul_le_mul (by omega) (by omega)
  exact ⟨_, _, by omega, Nat.mod_lt _ (by omega), hide1 (by omega), rfl, rfl⟩

set_option maxHeartbeats 1000000 in
theorem step_any (a m n o : Nat) (ha : a < 18446744073709551616) (hm : m < 18446744073709551616) (hn : n < 18446744073709551616) (ho : o < 18446744073709551616) (w : World) :
    Calls Tryd.prog 74 #[.int .u64 a, .int .u64 m, .int .u64 n, .int .u64 o] w fun e w' => ∃ lo hi : Nat, lo < 18446744073709551616 ∧ hi < 18446744073709551616 ∧ Hid (lo + 18446744073709551616 * hi = a + m * n + o) ∧ e = .returned (.tuple #[.int .u64 lo, .int .u64 hi]) ∧ w' = w := by
  go_enter Tryd.func74, Tryd.ntmps74
  go_wp2_with fail
  refine (mul64_ex m n hm hn _).mono ?_
  rintro e w1 ⟨hi, lo, h1, h2, h3, rfl, rfl⟩
  obtain ⟨s, k, hs, hk, e1, c1⟩ := add64_ex0 lo a h2 ha
  obtain ⟨t, j, ht, hj, e2, c2⟩ := add64_ex0 s o hs ho
  have hb : m * n ≤ 18446744073709551615 * 18446744073709551615 := Nat.mul_le_mul (by omega) (by omega)
  have b1 : hi + k < 18446744073709551616 := by have := h3.out; have := e1.out; omega
  have b2 : hi + k + j < 18446744073709551616 := by have := h3.out; have := e1.out; have := e2.out; omega
  clear hb
  go_wp2
  go_ret2
  refine ⟨t, hi + k + j, ht, b2, hide1 ?_, ?_, rfl⟩
  · have := h3.out; have := e1.out; have := e2.out; omega
  · simp

theorem step_ex (a m n o : Nat) (ha : a < 18446744073709551616) (hm : m < 18446744073709551616) (hn : n < 18446744073709551616) (ho : o < 18446744073709551616) :
    ∃ lo hi : Nat, lo < 18446744073709551616 ∧ hi < 18446744073709551616 ∧ Hid (lo + 18446744073709551616 * hi = a + m * n + o) ∧
      ∀ w, Calls Tryd.prog 74 #[.int .u64 a, .int .u64 m, .int .u64 n, .int .u64 o] w fun e w' => e = .returned (.tuple #[.int .u64 lo, .int .u64 hi]) ∧ w' = w := by
  have hb : m * n ≤ 18446744073709551615 * 18446744073709551615 := Nat.mul_le_mul (by omega) (by omega)
  refine ⟨(a + m * n + o) % 18446744073709551616, (a + m * n + o) / 18446744073709551616, by omega, by omega, hide1 (by omega), fun w => ?_⟩
  refine (step_any a m n o ha hm hn ho w).mono ?_
  rintro e w' ⟨lo, hi, h1, h2, h3, rfl, rfl⟩
  have h := h3.out
  have e1 : (a + m * n + o) % 18446744073709551616 = lo := by omega
  have e2 : (a + m * n + o) / 18446744073709551616 = hi := by omega
  rw [e1, e2]
  exact ⟨rfl, rfl⟩
end Go.Proofs.YtgojlikjcpnhjaaDoor

namespace Go.Proofs.YtgojlikjcpnhjaaDoor.Lo
open Go.RowKit

theorem aS_mod {s : (Nat → Nat) × (Nat → Nat) × Nat} {f : Nat → Nat} (h : s.2.2 < 128) : ∀ k, (aS s f k).2.2 = (s.2.2 + k) % 128
  | 0 => by show s.2.2 = _; omega
  | k + 1 => by
    have ih := aS_mod (f := f) h k
    show (a1 (aS s f k) (f k)).2.2 = _
    unfold a1
    split
    · show 0 = _; omega
    · show (aS s f k).2.2 + 1 = _; omega
def padS (s : (Nat → Nat) × (Nat → Nat) × Nat) (ln : Nat) : (Nat → Nat) × (Nat → Nat) × Nat :=
  aS (aS (aS s (fun _ => 128) 1) (fun _ => 0) ((240 - (aS s (fun _ => 128) 1).2.2) % 128)) (cntF ln) 16
theorem wrt_eq {w w' : World} {q l : Nat} {t : TypeId} {x y : (Nat → Nat) × (Nat → Nat) × Nat} (h : x = y) (hw : Wrt w w' q (dgc y.1 y.2.1 y.2.2 l) t) : Wrt w w' q (dgc x.1 x.2.1 x.2.2 l) t := by rw [h]; exact hw
/-- How many zeros are still to come. -/
def restZ (q : Nat) (w : World) : Nat := match w.cell? ⟨q, 150, none⟩ with
  | some (.int _ v) => (240 - v.toNat) % 128
  | _ => 0
set_option maxHeartbeats 4000000 in
set_option maxRecDepth 100000 in
theorem pad_d {H p : Nat → Nat} {fl ln q : Nat} {W0 : World} (hg : Gl W0) (hH : ∀ i, H i < B64) (hp : ∀ i, p i < 256) (hfl : fl < 128) (hln : ln < 18446744073709551616) (hq : W0.heap[q]? = some (.cells (dgc H p fl ln) 83 (0, 0))) :
    Calls Tryd.prog 69 #[.pointer (some ⟨q, 0, none⟩)] W0 fun e w' => e = .returned (.tuple #[]) ∧ ∃ ln', Wrt W0 w' q (dgc (padS (H, p, fl) ln).1 (padS (H, p, fl) ln).2.1 (padS (H, p, fl) ln).2.2 ln') 83 := by
  have hqlt := (Array.getElem?_eq_some_iff.1 hq).1
  have hal : Below W0.heap.size W0 (W0.alloc (.cells (ab 16 (fun _ => 0)) 121)) := (Below.refl _ _).alloc (Nat.le_refl _) _
  have hg0 := (MapKept.heap_alloc W0 (.cells (ab 16 (fun _ => 0)) 121)).1
  have hw0 := (Wrt.start hq).later hqlt hal
  rw [zero16] at hal hg0 hw0
  go_enter Tryd.func69, Tryd.ntmps69
  go_upto_region 1 with fail
  generalize W0.alloc (.cells #[.int .u8 0, .int .u8 0, .int .u8 0, .int .u8 0, .int .u8 0, .int .u8 0, .int .u8 0, .int .u8 0, .int .u8 0, .int .u8 0, .int .u8 0, .int .u8 0, .int .u8 0, .int .u8 0, .int .u8 0, .int .u8 0] 121) = w1 at hal hg0 hw0 ⊢
  rw [← zero16] at hg0
  have hs1 := hal.size
  have c151 : w1.cell? ⟨q, 151, none⟩ = some (.int .u64 ((ln : Nat) : Int)) := dg_cell (i := 151) (by decide) hw0.row
  have hgq : W0.heap.size ≠ q := by omega
  go_wp2_with fail
  refine (mul64 ln 8 hln (by decide) _).mono ?_
  rintro e w1 ⟨rfl, rfl⟩
  clear c151
  go_wp2_with fail
  refine (put_d (N := 16) (off := 0) (cap := 16) (v0 := ln * 8 / 18446744073709551616) (by decide) hg0).mono ?_
  rintro e w2 ⟨rfl, hp2⟩
  go_wp2_with fail
  refine (put_d (N := 16) (off := 8) (cap := 8) (v0 := ln * 8 % 18446744073709551616) (by decide) hp2.row).mono ?_
  rintro e w3 ⟨rfl, hp3⟩
  have hrow3 : w3.heap[W0.heap.size]? = some (.cells (ab 16 (cntF ln)) 121 (0, 0)) := hp3.row
  have hq1 := Nat.lt_of_lt_of_le hqlt hs1
  have hw3 := (hw0.other hp2 (Nat.le_refl _) (by omega) hq1).other hp3 (Nat.le_refl _) (by omega) (Nat.lt_of_lt_of_le hq1 hp2.size)
  clear hp2 hp3 hg0 hw0 hal
  go_wp2_with fail
  refine (size_e hw3.row).mono ?_
  rintro e w3 ⟨rfl, rfl⟩
  -- 0x80
  have hal4 : Below w3.heap.size w3 (w3.alloc (.cells #[.int .u8 128] 5)) := (Below.refl _ _).alloc (Nat.le_refl _) _
  have hs3 := hw3.size
  have hw4 := hw3.later (Array.getElem?_eq_some_iff.1 hw3.row).1 hal4
  have hr4 := (hal4.block _ (Array.getElem?_eq_some_iff.1 hrow3).1).trans hrow3
  have htk := take_d (cap := 1) (gl_wrt hg hq hw4) hH hp hfl (bs_one w3 128 (by decide)) (fun x e => by cases e; show w3.heap.size ≠ q; omega) (Nat.le_refl _) (by decide) hw4.row
  go_wp2_with fail
  refine htk.mono ?_
  rintro e w4 ⟨rfl, hw5⟩
  have hr5 := (hw5.block _ (Array.getElem?_eq_some_iff.1 hr4).1 hgq).trans hr4
  replace hw5 := hw4.trans hw5
  have hH1 := aS_H (s := (H, p, fl)) (f := fun _ => 128) hH 1
  have hp1 := aS_p (s := (H, p, fl)) (f := fun _ => 128) hp (fun _ => by decide) 1
  have hf1 : (aS (H, p, fl) (fun _ => 128) 1).2.2 < 128 := aS_fl hfl 1
  have hpS : padS (H, p, fl) ln = aS (aS (aS (H, p, fl) (fun _ => 128) 1) (fun _ => 0) ((240 - (aS (H, p, fl) (fun _ => 128) 1).2.2) % 128)) (cntF ln) 16 := rfl
  replace hpS := hide1 hpS
  clear htk hw4 hr4 hal4 hw3 hrow3
  generalize aS (H, p, fl) (fun _ => 128) 1 = s1 at *
  generalize hz : (240 - s1.2.2) % 128 = z at *
  replace hz := hide1 hz
  go_wp2
  go_loopw [] (fun wr => ∃ j ln' : Nat, j ≤ z ∧ Wrt W0 wr q (dgc (aS s1 (fun _ => 0) j).1 (aS s1 (fun _ => 0) j).2.1 (aS s1 (fun _ => 0) j).2.2 ln') 83 ∧ wr.heap[W0.heap.size]? = some (.cells (ab 16 (cntF ln)) 121 (0, 0))) (fun wr => restZ q wr)
  case atStart => exact ⟨0, _, Nat.zero_le _, hw5, hr5⟩
  case round =>
    clear hw5 hr5
    obtain ⟨j, ln', hj, hw, hr⟩ := hrel
    have hm := aS_mod (f := fun _ => 0) hf1 j
    have hzo := hz.out
    have e150 : wr.cell? ⟨q, 150, none⟩ = some (.int .i64 (((aS s1 (fun _ => 0) j).2.2 : Nat) : Int)) := dg_cell (i := 150) (by decide) hw.row
    have hsz : ∀ k, Calls Tryd.prog 67 #[.pointer (some ⟨q, 0, none⟩)] (wr.drewN k) fun e w' => e = .returned (.int .i64 128) ∧ w' = wr.drewN k := fun k => size_e (by simpa using hw.row)
    have hH2 := aS_H (s := s1) (f := fun _ => 0) hH1 j
    have hp2 := aS_p (s := s1) (f := fun _ => 0) hp1 (fun _ => by decide) j
    have hf2 : (aS s1 (fun _ => 0) j).2.2 < 128 := aS_fl hf1 j
    have hst : aS s1 (fun _ => 0) (j + 1) = aS (aS s1 (fun _ => 0) j) (fun _ => 0) 1 := aS_add s1 (fun _ => 0) j 1
    have hrz : restZ q wr = (240 - (aS s1 (fun _ => 0) j).2.2) % 128 := by unfold restZ; rw [e150]; simp
    have hwl := hw.size
    by_cases hd : (aS s1 (fun _ => 0) j).2.2 = 112
    · obtain rfl : j = z := by omega
      have hbq : ((((aS s1 (fun _ => 0) j).2.2 : Nat) : Int) == 112) = true := by simp; omega
      rw [hd] at e150
      have hb0 : Bs wr (some ⟨W0.heap.size, 0, none⟩) 16 (cntF ln) := by
        have := bs_ab (off := 0) (n := 16) (cnt_lt ln) hr (by decide)
        simpa using this
      clear hr hrz hst
      go_wp2_with fail
      go_quiet ((go_at_call 67; refine Calls.quiet_of_same (hsz _)))
      have hw6 := hw.later (Array.getElem?_eq_some_iff.1 hw.row).1 (below_dN wr nq)
      have hb6 := hb0.later (below_dN wr nq)
      have htk := take_d (cap := 16) (gl_wrt hg hq hw6) hH2 hp2 hf2 hb6 (fun x e => by cases e; exact hgq) (Nat.le_refl _) (by decide) hw6.row
      clear hsz hw hb0
      go_wp2_with fail
      refine htk.mono ?_
      rintro e w7 ⟨rfl, hw7⟩
      rw [eta3 (aS s1 (fun _ => 0) j), ← hpS.out] at hw7
      have hfin := hw6.trans hw7
      clear htk hw6 hw7
      go_wp2
      go_end0
      exact ⟨rfl, _, hfin⟩
    · have hbq : ((((aS s1 (fun _ => 0) j).2.2 : Nat) : Int) != 112) = true := by simp; omega
      have hjz : j < z := by
        rcases Nat.lt_or_ge j z with h | h
        · exact h
        · exfalso; omega
      have hnx := aS_mod (f := fun _ => 0) hf1 (j + 1)
      replace hm := hide1 hm
      replace hnx := hide1 hnx
      replace hrz := hide1 hrz
      obtain ⟨T, hT⟩ : ∃ T, Hid (T = aS s1 (fun _ => 0) (j + 1)) := ⟨_, hide1 rfl⟩
      rw [← hT.out] at hst hnx
      replace hst := hide1 hst
      generalize hF : aS s1 (fun _ => 0) j = A at *
      replace hF := hide1 hF
      obtain ⟨A1, A2, A3⟩ := A
      simp only at hw e150 hbq hH2 hp2 hf2
      clear hd
      go_wp2_with fail
      go_quiet ((go_at_call 67; refine Calls.quiet_of_same (hsz _)))
      have hw6 := hw.later (Array.getElem?_eq_some_iff.1 hw.row).1 (below_dN wr nq)
      have hr6 := ((below_dN wr nq).block _ (Array.getElem?_eq_some_iff.1 hr).1).trans hr
      clear hsz hw hr e150
      generalize wr.drewN nq = w4 at hw6 hr6 ⊢
      have hal : Below w4.heap.size w4 (w4.alloc (.cells #[.int .u8 0] 5)) := (Below.refl _ _).alloc (Nat.le_refl _) _
      have hw7 := hw6.later (Array.getElem?_eq_some_iff.1 hw6.row).1 hal
      have hr7 := (hal.block _ (Array.getElem?_eq_some_iff.1 hr6).1).trans hr6
      have hs4 := hw6.size
      have hb4 : Bs (w4.alloc (.cells #[.int .u8 0] 5)) (some ⟨w4.heap.size, 0, none⟩) 1 (fun _ => 0) := bs_one w4 0 (by decide)
      have htk := take_d (cap := 1) (gl_wrt hg hq hw7) hH2 hp2 hf2 hb4 (fun x e => by cases e; show w4.heap.size ≠ q; omega) (Nat.le_refl _) (by decide) hw7.row
      rw [← hst.out] at htk
      clear hb4 hH2 hp2 hf2 hwl
      go_wp2_with fail
      refine htk.mono ?_
      rintro e w8 ⟨rfl, hw8⟩
      have hr8 := (hw8.block _ (Array.getElem?_eq_some_iff.1 hr7).1 hgq).trans hr7
      replace hw8 := hw7.trans hw8
      have hrz2 : restZ q w8 = (240 - T.2.2) % 128 := by
        have e9 : w8.cell? ⟨q, 150, none⟩ = some (.int .i64 ((T.2.2 : Nat) : Int)) := dg_cell (i := 150) (by decide) hw8.row
        unfold restZ; rw [e9]; simp
      have hmeas : restZ q w8 < restZ q wr := by
        have h1 := hm.out
        have h2 := hnx.out
        have h3 := hrz.out
        try simp only at h1
        try simp only at h3
        rw [hrz2, h3]
        omega
      rw [hT.out] at hw8
      clear htk hw6 hw7 hr6 hr7 hal hrz2
      go_wp2
      exact ⟨⟨j + 1, _, by omega, hw8, hr8⟩, hmeas⟩
end Go.Proofs.YtgojlikjcpnhjaaDoor.Lo

namespace Go.Proofs.YtgojlikjcpnhjaaDoor.Lo
open Go.RowKit

/-- The words' bytes. -/
def outF (F H : Nat → Nat) : Nat → Nat → Nat
  | 0 => F
  | k + 1 => ptF (outF F H k) (8 * k) (H k) 8
theorem sl_8k {k g cap : Nat} (hk : k < 8) (hc : cap = 64) (w : World) : (Instr.sliceAt 24 (.slice (some ⟨g, 0, none⟩) 64 cap) (some (.int .i64 ((k : Int) * 8))) (some (.int .i64 (((k : Int) + 1) * 8))) none).run Tryd.prog w = .ok (.slice (some ⟨g, 8 * k, none⟩) 8 (64 - 8 * k)) w := by
  subst hc
  have h : k = 0 ∨ k = 1 ∨ k = 2 ∨ k = 3 ∨ k = 4 ∨ k = 5 ∨ k = 6 ∨ k = 7 := by omega
  rcases h with rfl | rfl | rfl | rfl | rfl | rfl | rfl | rfl <;> simp [Instr.sliceAt, go_sem]
theorem in8x {H : Nat → Nat} {k : Nat} (hk : k < 8) (w : World) : (Instr.index 80 (.agg #[.int .u64 ((H 0 : Nat) : Int), .int .u64 ((H 1 : Nat) : Int), .int .u64 ((H 2 : Nat) : Int), .int .u64 ((H 3 : Nat) : Int), .int .u64 ((H 4 : Nat) : Int), .int .u64 ((H 5 : Nat) : Int), .int .u64 ((H 6 : Nat) : Int), .int .u64 ((H 7 : Nat) : Int)]) (.int .i64 ((k : Nat) : Int))).run Tryd.prog w = .ok (.int .u64 ((H k : Nat) : Int)) w := in8 (F := H) hk w
set_option maxHeartbeats 4000000 in
set_option maxRecDepth 100000 in
theorem end_d {H p F : Nat → Nat} {fl ln q g : Nat} {tg : TypeId} {W0 : World} (hg : Gl W0) (hH : ∀ i, H i < B64) (hp : ∀ i, p i < 256) (hfl : fl < 128) (hln : ln < 18446744073709551616) (hq : W0.heap[q]? = some (.cells (dgc H p fl ln) 83 (0, 0))) (ho : W0.heap[g]? = some (.cells (ab 64 F) tg (0, 0))) (hne : g ≠ q) :
    Calls Tryd.prog 46 #[.pointer (some ⟨q, 0, none⟩), .slice (some ⟨g, 0, none⟩) 64 64] W0 fun e w' => e = .returned (.tuple #[]) ∧ w'.heap[g]? = some (.cells (ab 64 (outF F (padS (H, p, fl) ln).1 8)) tg (0, 0)) ∧ Wr2 W0 w' q g := by
  have hpd := pad_d hg hH hp hfl hln hq
  generalize padS (H, p, fl) ln = S at *
  obtain ⟨H1, p1, fl1⟩ := S
  simp only at hpd
  go_enter Tryd.func46, Tryd.ntmps46
  go_wp2_with fail
  refine hpd.mono ?_
  rintro e w1 ⟨rfl, ln', hw1⟩
  clear hpd
  have hr1 := (hw1.block g (Array.getElem?_eq_some_iff.1 ho).1 hne).trans ho
  have c0 : w1.cell? ⟨q, 0, none⟩ = some (.int .i64 64) := dg_cell (i := 0) (by decide) hw1.row
  have d0 : w1.cell? ⟨q, 14, none⟩ = some (.int .u64 ((H1 0 : Nat) : Int)) := dg_cell (i := 14) (by decide) hw1.row
  have d1 : w1.cell? ⟨q, 15, none⟩ = some (.int .u64 ((H1 1 : Nat) : Int)) := dg_cell (i := 15) (by decide) hw1.row
  have d2 : w1.cell? ⟨q, 16, none⟩ = some (.int .u64 ((H1 2 : Nat) : Int)) := dg_cell (i := 16) (by decide) hw1.row
  have d3 : w1.cell? ⟨q, 17, none⟩ = some (.int .u64 ((H1 3 : Nat) : Int)) := dg_cell (i := 17) (by decide) hw1.row
  have d4 : w1.cell? ⟨q, 18, none⟩ = some (.int .u64 ((H1 4 : Nat) : Int)) := dg_cell (i := 18) (by decide) hw1.row
  have d5 : w1.cell? ⟨q, 19, none⟩ = some (.int .u64 ((H1 5 : Nat) : Int)) := dg_cell (i := 19) (by decide) hw1.row
  have d6 : w1.cell? ⟨q, 20, none⟩ = some (.int .u64 ((H1 6 : Nat) : Int)) := dg_cell (i := 20) (by decide) hw1.row
  have d7 : w1.cell? ⟨q, 21, none⟩ = some (.int .u64 ((H1 7 : Nat) : Int)) := dg_cell (i := 21) (by decide) hw1.row
  have hW1 : Wr2 W0 w1 q g := Wr2.one hw1
  clear hw1
  go_wp2_with fail
  clear c0 d0 d1 d2 d3 d4 d5 d6 d7
  go_loopw [19] (fun i wr => ∃ k : Nat, k ≤ 8 ∧ i = .int .i64 k ∧ wr.heap[g]? = some (.cells (ab 64 (outF F H1 k)) tg (0, 0)) ∧ Wr2 W0 wr q g) (fun i _ => 8 - (intOf i).toNat)
  case atStart => exact ⟨0, by omega, rfl, hr1, hW1⟩
  case round =>
    clear hr1 hW1
    obtain ⟨k, hk, rfl, hr, hW⟩ := hrel
    by_cases hlt : k < 8
    · have hsl := fun w => sl_8k (g := g) (cap := 64) hlt rfl w
      have hin := fun w => in8x (H := H1) hlt w
      have hput := put_d (N := 64) (off := 8 * k) (cap := 64 - 8 * k) (v0 := H1 k) (by omega) hr
      have hsl2 := fun w => hsl w
      go_wp2_with fail
      refine hput.mono ?_
      rintro e w2 ⟨rfl, hw2⟩
      have hrow := hw2.row
      have hW2 := hW.next hw2
      clear hput hsl hsl2 hin hw2 hW hr
      go_wp2
      exact ⟨⟨k + 1, by omega, by go_num, hrow, hW2⟩, by simp [intOf]; omega⟩
    · obtain rfl : k = 8 := by omega
      go_wp2
      go_end0
      exact ⟨rfl, hr, hW⟩
end Go.Proofs.YtgojlikjcpnhjaaDoor.Lo

namespace Go.Proofs.YtgojlikjcpnhjaaDoor.Lo
open Go.RowKit

/-- All parts are taken. -/
def allS (s : (Nat → Nat) × (Nat → Nat) × Nat) (L : List Pt) : (Nat → Nat) × (Nat → Nat) × Nat := L.foldl (fun s x => aS s x.2 x.1) s
theorem allS_take {s : (Nat → Nat) × (Nat → Nat) × Nat} {L : List Pt} {k : Nat} (h : k < L.length) : allS s (L.take (k + 1)) = aS (allS s (L.take k)) L[k].2 L[k].1 := by
  unfold allS
  rw [List.take_succ_eq_append_getElem h, List.foldl_append]; rfl
theorem bgF_lt : ∀ i, bgF 8 i < B64 := by
  have h : ∀ k i, bgF k i < B64 := by
    intro k
    induction k with
    | zero => intro _; show 0 < B64; decide
    | succ k ih =>
      intro i
      show updN (bgF k) k (sq k / 2 ^ 0) i < B64
      refine upd_lt ih ?_ i
      have := sq_lt k
      unfold B64
      omega
  exact h 8
theorem allS_ok {L : List Pt} (hL : ∀ x ∈ L, ∀ i, x.2 i < 256) : ∀ {s : (Nat → Nat) × (Nat → Nat) × Nat}, (∀ i, s.1 i < B64) → (∀ i, s.2.1 i < 256) → s.2.2 < 128 → (∀ i, (allS s L).1 i < B64) ∧ (∀ i, (allS s L).2.1 i < 256) ∧ (allS s L).2.2 < 128 := by
  induction L with
  | nil => intro s h1 h2 h3; exact ⟨h1, h2, h3⟩
  | cons x r ih =>
    intro s h1 h2 h3
    exact ih (fun y hy => hL y (by simp [hy])) (aS_H h1 x.1) (aS_p h2 (hL x (by simp)) x.1) (aS_fl h3 x.1)
/-- The state at first. -/
def s0 : (Nat → Nat) × (Nat → Nat) × Nat := (bgF 8, fun _ => 0, 0)
/-- The long digest of parts, on paper. -/
def longP (L : List Pt) : Nat → Nat := outF (fun _ => 0) (padS (allS s0 L) (lenS L)).1 8
set_option maxHeartbeats 4000000 in
set_option maxRecDepth 100000 in
theorem long_d {L : List Pt} {pa : Option Addr} {pc : Nat} {W0 : World} (hg : Gl W0) (hP : PsAt W0 pa L) (hL : ∀ x ∈ L, ∀ i, x.2 i < 256) (hlen : lenS L ≤ 1099511627776) (hn : L.length ≤ 1000000) :
    Calls Tryd.prog 20 #[.slice pa L.length pc] W0 fun e w' => e = .returned (.agg (ab 64 (longP L))) ∧ Below W0.heap.size W0 w' := by
  have hal : Below W0.heap.size W0 (W0.alloc (.cells (ab 64 fun _ => 0) 27)) := (Below.refl _ _).alloc (Nat.le_refl _) _
  have hr0 := (MapKept.heap_alloc W0 (.cells (ab 64 fun _ => 0) 27)).1
  have hzd : ∀ w : World, (zeroValue 83).run Tryd.prog w = .ok (.agg zdc) w := fun w => by kernel_rfl
  go_enter Tryd.func20, Tryd.ntmps20
  go_upto_region 1 with fail
  refine Eq.mpr (congrArg (fun c => Code.wp _ _ _ _ (W0.alloc (.cells c 27))) (?h : _ = ab 64 (fun _ => 0))) ?_
  case h => kernel_rfl
  generalize W0.alloc (.cells (ab 64 fun _ => 0) 27) = w1 at hal hr0 ⊢
  have hg1 : Gl w1 := ⟨fun i hi => cell_later hal (hg.1 i hi), fun i hi => cell_later hal (hg.2 i hi)⟩
  go_wp2_with fail
  refine (plan_d w1).mono ?_
  rintro e w2 ⟨rfl, hb2⟩
  have hg2 : Gl w2 := ⟨fun i hi => cell_later hb2 (hg1.1 i hi), fun i hi => cell_later hb2 (hg1.2 i hi)⟩
  go_wp2_with fail
  refine (begin_d hg2).mono ?_
  rintro e w3 ⟨rfl, hb3⟩
  go_wp2_with (first
    | (refine wpList_store_row rfl 83 (.tmp 3) (.tmp 8) rfl w3.heap.size (dgc (bgF 8) (fun _ => 0) 0 0) _ 83 rfl rfl (by rw [dgc_size]; kernel_rfl) (MapKept.heap_alloc w3 _).1 (by rw [dgc_size]; exact arr_size _ _) (dgc_one _ _ _ _) rfl ?_)
    | go_in)
  have hb03 : Below W0.heap.size W0 w3 := (hal.trans (hb2.mono hal.size)).trans (hb3.mono (Nat.le_trans hal.size hb2.size))
  have hr3 : w3.heap[W0.heap.size]? = some (.cells (ab 64 fun _ => 0) 27 (0, 0)) := by
    have h1 := (Array.getElem?_eq_some_iff.1 hr0).1
    rw [hb3.block _ (Nat.lt_of_lt_of_le h1 hb2.size), hb2.block _ h1]
    exact hr0
  have hlt3 := (Array.getElem?_eq_some_iff.1 hr3).1
  have hal3 : Below w3.heap.size w3 (w3.alloc (.cells zdc 83)) := (Below.refl _ _).alloc (Nat.le_refl _) _
  have hw4 := wrt_row (c' := dgc (bgF 8) (fun _ => 0) 0 0) (MapKept.heap_alloc w3 (.cells zdc 83)).1
  have hb04 := below_wrt (hb03.trans (hal3.mono hb03.size)) hw4 (by omega) (Nat.le_trans hb03.size hal3.size)
  have hr4 := (hw4.block W0.heap.size (Nat.lt_of_lt_of_le hlt3 hal3.size) (by omega)).trans ((hal3.block _ hlt3).trans hr3)
  have hq4 := hw4.row
  clear hw4 hal3 hr3 hb03 hb3 hb2 hal hr0 hg1 hg2
  generalize (w3.alloc (.cells zdc 83)).setRow w3.heap.size (dgc (bgF 8) (fun _ => 0) 0 0) = w4 at hb04 hr4 hq4 ⊢
  go_loopw [11] (fun i wr => ∃ k : Nat, k ≤ L.length ∧ i = .int .i64 k ∧ wr.heap[w3.heap.size]? = some (.cells (dgc (allS s0 (L.take k)).1 (allS s0 (L.take k)).2.1 (allS s0 (L.take k)).2.2 (lenS (L.take k))) 83 (0, 0)) ∧ wr.heap[W0.heap.size]? = some (.cells (ab 64 fun _ => 0) 27 (0, 0)) ∧ Below W0.heap.size W0 wr) (fun i _ => L.length - (intOf i).toNat)
  case atStart => exact ⟨0, Nat.zero_le _, rfl, hq4, hr4, hb04⟩
  case round =>
    clear hq4 hr4 hb04
    obtain ⟨k, hk, rfl, hq, hr, hb⟩ := hrel
    obtain ⟨o1, o2, o3⟩ := allS_ok (L := L.take k) (fun x hx => hL x (List.mem_of_mem_take hx)) (s := s0) bgF_lt (fun _ => by show 0 < 256; decide) (by show 0 < 128; decide)
    have hgr := gl_b hg hb
    by_cases hlt : k < L.length
    · obtain ⟨pb, off, rfl, hc⟩ := hP (by omega)
      obtain ⟨a, cap, hcl, hbs, hcp, hxl⟩ := hc k hlt
      have hcl := cell_later hb hcl
      have hle := lenS_le L (k + 1)
      have hls := lenS_take hlt
      have hnx := allS_take (s := s0) hlt
      have htk := take_d hgr o1 o2 o3 (hbs.later hb) (fun x ex => by have := hxl x ex; omega) hcp (by omega) hq
      rw [eta3 (allS s0 (L.take k))] at htk
      have hmod : (lenS (L.take k) + L[k].1) % B64 = lenS (L.take k) + L[k].1 := Nat.mod_eq_of_lt (by unfold B64; omega)
      rw [hmod, ← hls, ← hnx] at htk
      replace hls := hide1 hls
      replace hnx := hide1 hnx
      generalize L[k] = pt at *
      clear hc hbs hmod
      go_wp2_with fail
      refine htk.mono ?_
      rintro e w5 ⟨rfl, hw5⟩
      have hq5 := hw5.row
      have hr5 := (hw5.block _ (Array.getElem?_eq_some_iff.1 hr).1 (by omega)).trans hr
      have hb5 := below_wrt hb hw5 (by omega) hb.size
      clear htk hw5 hcl hq hr hb o1 o2 o3 hgr
      go_wp2
      exact ⟨⟨k + 1, by omega, by go_num, hq5, hr5, hb5⟩, by simp [intOf]; omega⟩
    · obtain rfl : k = L.length := by omega
      rw [List.take_length] at hq o1 o2 o3
      have hlp : longP L = outF (fun _ => 0) (padS (allS s0 L) (lenS L)).1 8 := rfl
      replace hlp := hide1 hlp
      have hlr := (Array.getElem?_eq_some_iff.1 hr).1
      have hlq := (Array.getElem?_eq_some_iff.1 hq).1
      have hal : Below wr.heap.size wr (wr.alloc (.cells (ab 64 fun _ => 0) 27)) := (Below.refl _ _).alloc (Nat.le_refl _) _
      have ho5 := (MapKept.heap_alloc wr (.cells (ab 64 fun _ => 0) 27)).1
      clear hP hL hn
      go_upto_region 8 with fail
      refine Eq.mpr (congrArg (fun c => Code.wp _ _ _ _ (wr.alloc (.cells c 27))) (?h : _ = ab 64 (fun _ => 0))) ?_
      case h => kernel_rfl
      have hq5 := (hal.block _ hlq).trans hq
      have hr5 := (hal.block _ hlr).trans hr
      have hb5 : Below W0.heap.size W0 (wr.alloc (.cells (ab 64 fun _ => 0) 27)) := hb.trans (hal.mono hb.size)
      have hs5 := hal.size
      have hg5 := gl_b hgr hal
      clear hal hq hr hb hgr
      generalize wr.alloc (.cells (ab 64 fun _ => 0) 27) = w5 at hq5 hr5 hb5 ho5 hs5 hg5 ⊢
      have hen := end_d hg5 o1 o2 o3 (by omega) hq5 ho5 (by omega)
      rw [eta3 (allS s0 L), ← hlp.out] at hen
      go_wp2_with fail
      refine hen.mono ?_
      rintro e w6 ⟨rfl, ho6, hW6⟩
      have hr6 := (hW6.block _ (by omega) (by omega) (by omega)).trans hr5
      have hw7 := wrt_row (c' := ab 64 (longP L)) hr6
      have hfin : Below W0.heap.size W0 (w6.setRow W0.heap.size (ab 64 (longP L))) := by
        have h6 : Below W0.heap.size W0 w6 := ⟨hW6.os.trans hb5.os, hW6.tape.trans hb5.tape, hW6.output.trans hb5.output, Nat.le_trans hb5.size hW6.size, fun i hi => (hW6.block i (by omega) (by omega) (by omega)).trans (hb5.block i hi)⟩
        exact below_wrt h6 hw7 (Nat.le_refl _) h6.size
      have hrw := hw7.row
      clear hen hW6 hw7 hq5 hr5 hb5 ho5 hg5 o1 o2 o3 hlp
      generalize hF : longP L = F at *
      replace hF := hide1 hF
      have i29 : (Tryd.prog.info? 27).map (·.size) = some (ab 64 F).size := by rw [ab_size]; kernel_rfl
      have z29 : (ab 64 fun _ => 0).size = (ab 64 F).size := by rw [ab_size, ab_size]
      have o29 := ab_one 64 F
      go_upto_region 9 with fail
      go_wp2_with (first
        | (refine wpList_load_row rfl 27 (.tmp 6) rfl wr.heap.size (ab 64 F) 27 rfl Tryd.underlying27 i29 ho6 ?_)
        | (refine wpList_store_row rfl 27 (.tmp 2) (.tmp 20) rfl W0.heap.size (ab 64 F) (ab 64 fun _ => 0) 27 rfl rfl i29 hr6 z29 o29 rfl ?_))
      exact bodyPost_ret (v := .agg (ab 64 F)) (results_row rfl _ rfl Tryd.underlying27 i29 hrw) rfl ⟨by rw [hF.out], hfin⟩
end Go.Proofs.YtgojlikjcpnhjaaDoor.Lo

namespace Go.Proofs.YtgojlikjcpnhjaaDoor.Lo
open Go.RowKit

theorem aS_cong {s : (Nat → Nat) × (Nat → Nat) × Nat} {f g : Nat → Nat} : ∀ k, (∀ i, i < k → f i = g i) → aS s f k = aS s g k
  | 0, _ => rfl
  | k + 1, h => by
    show a1 (aS s f k) (f k) = a1 (aS s g k) (g k)
    rw [aS_cong k (fun i hi => h i (by omega)), h k (by omega)]
theorem allS_join : ∀ (L : List Pt) (s : (Nat → Nat) × (Nat → Nat) × Nat), allS s L = aS s (joinF L) (lenS L)
  | [], s => rfl
  | x :: r, s => by
    have h : lenS (x :: r) = x.1 + lenS r := by simp [lenS]
    rw [h, aS_add]
    show allS (aS s x.2 x.1) r = _
    rw [allS_join r, aS_cong (f := joinF (x :: r)) (g := x.2) x.1 (fun i hi => by show (if i < x.1 then _ else _) = _; rw [if_pos hi])]
    refine aS_cong _ (fun i _ => ?_)
    show _ = if x.1 + i < x.1 then _ else joinF r (x.1 + i - x.1)
    rw [if_neg (by omega), show x.1 + i - x.1 = i by omega]
/-- How many zeros stand between the mark and the count. -/
def zN (n : Nat) : Nat := (240 - (n + 1) % 128) % 128
/-- A text of n bytes, filled up. -/
def padF (f : Nat → Nat) (n : Nat) (i : Nat) : Nat := if i < n then f i else if i = n then 128 else if i < n + 1 + zN n then 0 else cntF n (i - (n + 1 + zN n))
/-- How many pieces it has. -/
def nP (n : Nat) : Nat := (n + 1 + zN n + 16) / 128
theorem nP_e (n : Nat) : n + 1 + zN n + 16 = 128 * nP n := by unfold nP zN; omega
theorem padF_lt {f : Nat → Nat} (hf : ∀ i, f i < 256) (n i : Nat) : padF f n i < 256 := by
  unfold padF
  split
  · exact hf i
  · split
    · decide
    · split
      · decide
      · exact cnt_lt _ _
theorem padS_join (f : Nat → Nat) (n : Nat) : padS (aS s0 f n) n = aS s0 (padF f n) (128 * nP n) := by
  have h0 : s0.2.2 < 128 := by show 0 < 128; decide
  have e1 : (aS (aS s0 f n) (fun _ => 128) 1).2.2 = (n + 1) % 128 := by
    rw [aS_mod (aS_fl h0 n), aS_mod h0]
    show ((0 + n) % 128 + 1) % 128 = _
    omega
  unfold padS
  rw [e1]
  show aS (aS (aS (aS s0 f n) (fun _ => 128) 1) (fun _ => 0) (zN n)) (cntF n) 16 = _
  rw [← nP_e, aS_add s0 (padF f n) (n + 1 + zN n) 16, aS_add s0 (padF f n) (n + 1) (zN n), aS_add s0 (padF f n) n 1]
  rw [aS_cong (f := padF f n) (g := f) n (fun i hi => by unfold padF; rw [if_pos hi])]
  rw [aS_cong (f := fun i => padF f n (n + i)) (g := fun _ => 128) 1 (fun i hi => by show padF f n (n + i) = 128; unfold padF; rw [if_neg (by omega), if_pos (by omega)])]
  rw [aS_cong (f := fun i => padF f n (n + 1 + i)) (g := fun _ => 0) (zN n) (fun i hi => by show padF f n (n + 1 + i) = 0; unfold padF; rw [if_neg (by omega), if_neg (by omega), if_pos (by omega)])]
  refine aS_cong _ (fun i hi => ?_)
  show _ = padF f n (n + 1 + zN n + i)
  unfold padF
  rw [if_neg (by omega), if_neg (by omega), if_neg (by omega), show n + 1 + zN n + i - (n + 1 + zN n) = i by omega]
theorem bwF_cong {p p' F : Nat → Nat} {t : Nat} (h : ∀ i, i < 8 * t + 8 → p i = p' i) : ∀ k, k ≤ 8 → bwF p F t k = bwF p' F t k
  | 0, _ => rfl
  | k + 1, hk => by
    simp only [bwF]
    rw [bwF_cong h k (by omega), h _ (by omega)]
theorem r16_cong {p p' : Nat → Nat} (h : ∀ i, i < 128 → p i = p' i) : ∀ t, t ≤ 16 → r16 p t = r16 p' t
  | 0, _ => rfl
  | t + 1, ht => by
    show bwF p (r16 p t) t 8 = bwF p' (r16 p' t) t 8
    rw [r16_cong h t (by omega)]
    exact bwF_cong (fun i hi => h i (by omega)) 8 (by omega)
theorem r80_cong {p p' : Nat → Nat} (h : ∀ i, i < 128 → p i = p' i) : ∀ k, r80 p k = r80 p' k
  | 0 => r16_cong h 16 (by omega)
  | k + 1 => by simp only [r80]; rw [r80_cong h k]
theorem mixH_cong {H p p' : Nat → Nat} (h : ∀ i, i < 128 → p i = p' i) : mixH H p = mixH H p' := by unfold mixH; rw [r80_cong h]
/-- The words behind so many pieces. -/
def bkH (H f : Nat → Nat) : Nat → Nat → Nat
  | 0 => H
  | k + 1 => mixH (bkH H f k) (fun i => f (128 * k + i))
theorem aS_bk (H p f : Nat → Nat) : ∀ k, (aS (H, p, 0) f (128 * k)).1 = bkH H f k ∧ (aS (H, p, 0) f (128 * k)).2.2 = 0
  | 0 => ⟨rfl, rfl⟩
  | k + 1 => by
    obtain ⟨h1, h2⟩ := aS_bk H p f k
    rw [show 128 * (k + 1) = 128 * k + 128 by omega, aS_add]
    rcases hs : aS (H, p, 0) f (128 * k) with ⟨H1, p1, l1⟩
    rw [hs] at h1 h2
    obtain rfl : l1 = 0 := h2
    obtain rfl : H1 = bkH H f k := h1
    rw [aS_full (bkH H f k) p1 0 (fun i => f (128 * k + i)) (by decide) rfl]
    refine ⟨mixH_cong (fun i hi => ?_), rfl⟩
    unfold cpF
    rw [if_pos (by omega)]; rfl
/-- The long digest, piece by piece. -/
theorem longP_bk (L : List Pt) : longP L = outF (fun _ => 0) (bkH (bgF 8) (padF (joinF L) (lenS L)) (nP (lenS L))) 8 := by
  unfold longP
  rw [allS_join, padS_join]
  have h := (aS_bk (bgF 8) (fun _ => 0) (padF (joinF L) (lenS L)) (nP (lenS L))).1
  show outF _ (aS (bgF 8, fun _ => 0, 0) _ _).1 8 = _
  rw [h]
/-! Bytes of words. -/
theorem outF_e {F H : Nat → Nat} : ∀ k i, i < 8 * k → outF F H k i = H (i / 8) / 256 ^ (7 - i % 8) % 256
  | 0, i, h => by omega
  | k + 1, i, h => by
    show ptF (outF F H k) (8 * k) (H k) 8 i = _
    rcases Nat.lt_or_ge i (8 * k) with h1 | h1
    · rw [ptF_out (Or.inl h1) 8]; exact outF_e k i h1
    · obtain ⟨j, rfl⟩ : ∃ j, i = 8 * k + j := ⟨i - 8 * k, by omega⟩
      rw [ptF_in (by omega) 8 (by omega) (by omega), show (8 * k + j) / 8 = k by omega, show (8 * k + j) % 8 = j by omega]
end Go.Proofs.YtgojlikjcpnhjaaDoor.Lo

namespace Go.Proofs.YtgojlikjcpnhjaaDoor
open Go.RowKit
section
variable {P : Program} {W : Wd} {ops : Array Oper} {s0 s1 : List SV} {z : List Blk} {y : List (Array Value)} {o : Oper}
/-- A call that lays a block, and answers what stands for it. -/
theorem k_cn (f : FuncId) {args : Array Operand} {tys : Array TypeId} (vs : Array Value) {d : Tmp} (b : Nat) (fm : Fm) {c : Array Value} {t0 : TypeId} (hc : ∀ w, KW W w → Calls P f vs w fun e w' => ∃ q, e = .returned (fv fm q) ∧ w.heap.size ≤ q ∧ w'.heap[q]? = some (.cells c t0 (0, 0)) ∧ Below w.heap.size w w') (ho : o.op = .call { callee := .value (.func f), args := args, argTypes := tys }) (hd : o.dst = some d)
    (hw : wantF ops s1 o = true := by kernel_rfl) (hs : slot s1 d = .inr (b, fm) := by kernel_rfl) (hz : zc z b = (c, t0) := by kernel_rfl) (hv : args.map (evS s1) = vs := by kernel_rfl) (hp : args.all (plainB s1) = true := by kernel_rfl) (he : ∀ w, (callFunc f vs).run P w = .ok (.enter f vs) w := by intro w; kernel_rfl) : Ok1 P W ops s0 s1 z y o ⟨some b, none, none, false⟩ := by
  refine Or.inl ⟨hw, ⟨?_, fun b' h => ?_, fun b _ h => by simp at h, ?_⟩⟩
  · rintro b' (h | h | ⟨h, _⟩) <;> simp at h
  · cases h; exact ⟨d, _, hd, hs⟩
  · intro β a w ha hb hr hns K Q hK
    have hmap : args.map a.eval = vs := by
      rw [← hv]
      apply Array.map_congr_left
      intro x hx
      refine ev_plain ha ?_ (Array.all_eq_true_iff_forall_mem.1 hp x hx)
      rw [ho]; simp [Op.operands, Call.operands, hx]
    have hev : a.eval (.func f) = .func (.func f) #[] #[] := rfl
    unfold Oper.wp execOp
    simp only [ho, resolve, invoke, Sem.run_bind, hmap, hev, Deferred.ofValue, Sem.run_pure, Result.andThen_ok, Array.append_empty, Array.empty_append, he, Oper.upon_enter]
    refine (hc w hb).mono ?_
    rintro e w' ⟨q, rfl, hq, hrow, hbl⟩
    exact hK _ _ ⟨q, hq, fun d' fm' h1 h2 => by rw [hd] at h1; cases h1; rw [hs] at h2; cases h2; rfl, by rw [hz]; exact hrow, hbl⟩
end
section
variable {P : Program} {W : Wd} {s : List SV} {d : List (Nat × SV)} {m : List Blk} {β : Nat → Nat} {a : Act} {w : World} {Q : Exit → Act → World → Prop}
theorem tm_put {t : Nat} {sv : SV} {v : Value} (hv : den β sv = v) : ({ tmps := ((ov s d).map (den β)).toArray, defers := [] } : Act).put (some t) v = { tmps := ((ov s ((t, sv) :: d)).map (den β)).toArray, defers := [] } := by
  unfold Act.put
  simp only [Act.mk.injEq, and_true]
  apply Array.ext_getElem?
  intro i
  rw [Array.getElem?_setIfInBounds]
  simp only [List.size_toArray, List.getElem?_toArray, List.getElem?_map, List.length_map, ov_len]
  rcases Nat.lt_or_ge i s.length with hi | hi
  · have e1 : ∀ d : List (Nat × SV), (ov s d)[i]? = some (lk d i s) := fun d => by simp [ov, hi]
    rw [e1, e1]
    simp only [Option.map_some]
    by_cases e : t = i
    · subst e
      rw [if_pos rfl, if_pos hi, ← hv]
      show _ = some (den β (bif Nat.beq t t then sv else _))
      rw [Nat.beq_refl]; rfl
    · rw [if_neg e]
      show _ = some (den β (bif Nat.beq t i then sv else lk d i s))
      rw [show Nat.beq t i = false from by
        cases hb : Nat.beq t i with
        | false => rfl
        | true => exact absurd (Nat.beq_eq.mp hb) e]
      rfl
  · have e1 : ∀ d : List (Nat × SV), (ov s d)[i]? = none := fun d => by rw [List.getElem?_eq_none]; rw [ov_len]; exact hi
    rw [e1, e1]
    by_cases e : t = i
    · subst e
      rw [if_pos rfl, if_neg (by omega)]; rfl
    · rw [if_neg e]
theorem bup_new (β : Nat → Nat) (n q : Nat) : bup β n q n = q := by unfold bup; rw [Nat.beq_refl]; rfl
theorem bup_old (β : Nat → Nat) {n q b : Nat} (h : b < n) : bup β n q b = β b := by
  unfold bup
  rw [show Nat.beq b n = false from by
    cases e : Nat.beq b n with
    | false => rfl
    | true => have := Nat.beq_eq.mp e; omega]
  rfl
/-- A block more, that a call has laid. -/
theorem St.grown (h : St W (ov s d) m β a w) {q : Nat} {c : Array Value} {t0 : TypeId} {w' : World} (hq : w.heap.size ≤ q) (hr : w'.heap[q]? = some (.cells c t0 (0, 0))) (hb : Below w.heap.size w w') : St W (ov s d) (m ++ [(c, t0)]) (bup β m.length q) { tmps := ((ov s d).map (den (bup β m.length q))).toArray, defers := [] } w' ∧ a = { tmps := ((ov s d).map (den (bup β m.length q))).toArray, defers := [] } := by
  have hlt : ∀ b, b < m.length → β b < w.heap.size := by
    intro b hb
    obtain ⟨x, hx⟩ : ∃ x, m[b]? = some x := ⟨_, List.getElem?_eq_getElem hb⟩
    exact (Array.getElem?_eq_some_iff.1 (h.row b x hx)).1
  have hS : ∀ k, W.S k → k < w.heap.size := fun k hk => Nat.lt_of_lt_of_le (W.lt k hk) h.bel.size
  refine ⟨⟨rfl, h.bel.quiet hb, ?_, ?_, ?_, ?_, ?_⟩, ?_⟩
  · intro b c' hc
    rcases Nat.lt_or_ge b m.length with hb' | hb'
    · rw [List.getElem?_append_left hb'] at hc
      rw [bup_old β hb', hb.block _ (hlt b hb')]
      exact h.row b c' hc
    · have hb2 : b < (m ++ [(c, t0)]).length := (List.getElem?_eq_some_iff.1 hc).1
      obtain rfl : b = m.length := by simp at hb2; omega
      rw [List.getElem?_append_right (Nat.le_refl _), Nat.sub_self] at hc
      cases hc
      rw [bup_new]; exact hr
  · intro b hb'
    rcases Nat.lt_or_ge b m.length with h1 | h1
    · rw [bup_old β h1]; exact h.old b h1
    · obtain rfl : b = m.length := by simp at hb'; omega
      rw [bup_new]
      intro hs
      have := hS _ hs
      omega
  · intro b c' hb' hc e
    rcases Nat.lt_or_ge b m.length with h1 | h1 <;> rcases Nat.lt_or_ge c' m.length with h2 | h2
    · rw [bup_old β h1, bup_old β h2] at e; exact h.inj b c' h1 h2 e
    · obtain rfl : c' = m.length := by simp at hc; omega
      rw [bup_old β h1, bup_new] at e
      have := hlt b h1; omega
    · obtain rfl : b = m.length := by simp at hb'; omega
      rw [bup_old β h2, bup_new] at e
      have := hlt c' h2; omega
    · simp at hb' hc; omega
  · intro t p h1 h2
    have := h.live t p h1 h2
    simp; omega
  · intro b r hb'
    have := h.pin b r hb'
    exact ⟨by simp; omega, by rw [bup_old β this.1]; exact this.2⟩
  · rw [h.tm]
    simp only [Act.mk.injEq, and_true]
    congr 1
    apply List.map_congr_left
    intro x hx
    cases x with
    | inl v => rfl
    | inr p =>
      obtain ⟨t, ht, e⟩ := List.getElem_of_mem hx
      have hs : slot (ov s d) t = .inr p := by unfold slot; rw [List.getD_eq_getElem?_getD, List.getElem?_eq_getElem ht, e]; rfl
      have := h.live t p ht hs
      show fv p.2 (β p.1) = fv p.2 (bup β m.length q p.1)
      rw [bup_old β this]
/-- Slots that stand for blocks which are there. -/
theorem St.putr (h : St W (ov s d) m β a w) (t b : Nat) (fm : Fm) (hb : b < m.length) : St W (ov s ((t, .inr (b, fm)) :: d)) m β (a.put (some t) (fv fm (β b))) w := by
  refine ⟨?_, h.bel, h.row, h.old, h.inj, ?_, h.pin⟩
  · rw [h.tm]; exact tm_put rfl
  · intro i p hi hs
    rw [ov_len] at hi
    rw [slot_ov hi] at hs
    have hs : (bif Nat.beq t i then .inr (b, fm) else lk d i s) = Sum.inr p := hs
    cases hbq : Nat.beq t i with
    | true => rw [hbq] at hs; cases hs; exact hb
    | false => rw [hbq] at hs; exact h.live i p (by rw [ov_len]; exact hi) (by rw [slot_ov hi]; exact hs)
theorem St.putl (h : St W (ov s d) m β a w) (t : Nat) (v : Value) : St W (ov s ((t, .inl v) :: d)) m β (a.put (some t) v) w := by
  refine ⟨?_, h.bel, h.row, h.old, h.inj, ?_, h.pin⟩
  · rw [h.tm]; exact tm_put rfl
  · intro i p hi hs
    rw [ov_len] at hi
    rw [slot_ov hi] at hs
    have hs : (bif Nat.beq t i then .inl v else lk d i s) = Sum.inr p := hs
    cases hbq : Nat.beq t i with
    | true => rw [hbq] at hs; cases hs
    | false => rw [hbq] at hs; exact h.live i p (by rw [ov_len]; exact hi) (by rw [slot_ov hi]; exact hs)
theorem St.ev (h : St W (ov s d) m β a w) {t : Nat} {v : Value} (ht : Nat.blt t s.length = true) (hs : lk d t s = .inl v) : a.eval (.tmp t) = v := by
  have ht := Nat.le_of_ble_eq_true ht
  rw [h.tm]
  simp only [Act.eval]
  rw [Array.getD_eq_getD_getElem?, List.getElem?_toArray, List.getElem?_map]
  have e1 : (ov s d)[t]? = some (lk d t s) := by simp [ov, show t < s.length from ht]
  rw [e1, hs]; rfl
/-- A slot moved, a call of it that lays a block, the call's answer put into a slot: the block's content is told behind the call. -/
theorem reg_c3 {id : Nat} {o0 o1 o2 : Oper} {t0 d0 d1 d2 : Nat} {f : FuncId} {xs : Array Value} {tys : Array TypeId} {args : Array Operand} (h : St W (ov s d) m β a w) (v0 : Value) (ty : TypeId) (J : Array Value → Nat → Nat → Prop)
    (hc : Calls P f xs w fun e w' => ∃ c q len cap, e = .returned (.slice (some ⟨q, 0, none⟩) len cap) ∧ w.heap.size ≤ q ∧ w'.heap[q]? = some (.cells c ty (0, 0)) ∧ Below w.heap.size w w' ∧ J c len cap)
    (k : ∀ c len cap β a w, J c len cap → St W (ov s ((d2, .inr (m.length, sl 0 len cap)) :: (d1, .inr (m.length, sl 0 len cap)) :: (d0, .inl v0) :: d)) (m ++ [(c, ty)]) β a w → Q .normal a w)
    (p0 : o0.op = .move (.tmp t0)) (g0 : o0.guard = none) (e0 : o0.dst = some d0) (p1 : o1.op = .call { callee := .value (.func f), args := args, argTypes := tys }) (g1 : o1.guard = none) (e1 : o1.dst = some d1) (p2 : o2.op = .assign (.tmp d1)) (g2 : o2.guard = none) (e2 : o2.dst = some d2)
    (ht : Nat.blt t0 s.length = true := by kernel_rfl) (hv : lk d t0 s = .inl v0 := by kernel_rfl) (ht1 : Nat.blt d1 s.length = true := by kernel_rfl)
    (hxs : ∀ a' : Act, a'.eval (.tmp d0) = v0 → args.map a'.eval = xs) (ht0 : Nat.blt d0 s.length = true := by kernel_rfl) (he : ∀ w, (callFunc f xs).run P w = .ok (.enter f xs) w := by intro w; kernel_rfl) : (Code.region id [o0, o1, o2].toArray false).wp P Q a w := by
  refine wp_region_lit ?_
  refine wpList_plain g0 fun K hK => ?_
  unfold Oper.wp
  simp only [execOp, p0, h.ev ht hv, e0, Sem.run_pure, Oper.upon_value]
  refine hK _ _ ?_
  have h1 := h.putl d0 v0
  refine wpList_plain g1 fun K hK => ?_
  have hmap := hxs _ (h1.ev (t := d0) (v := v0) ht0 (by show (bif Nat.beq d0 d0 then _ else _) = _; rw [Nat.beq_refl]; rfl))
  have hev : ∀ a : Act, a.eval (.func f) = .func (.func f) #[] #[] := fun _ => rfl
  unfold Oper.wp execOp
  simp only [p1, resolve, invoke, Sem.run_bind, hmap, hev, Deferred.ofValue, Sem.run_pure, Result.andThen_ok, Array.append_empty, Array.empty_append, he, Oper.upon_enter]
  refine hc.mono ?_
  rintro e w' ⟨c, q, len, cap, rfl, hq, hr, hb, hJ⟩
  refine hK _ _ ?_
  obtain ⟨h2, ea⟩ := h1.grown hq hr hb
  rw [ea, e1]
  have h3 := h2.putr d1 m.length (sl 0 len cap) (by simp)
  rw [bup_new] at h3
  have h3 : St W _ _ _ (Act.put _ (some d1) (.slice (some ⟨q, 0, none⟩) len cap)) w' := h3
  refine wpList_plain g2 fun K hK => ?_
  have hv2 : (Act.put { tmps := ((ov s ((d0, .inl v0) :: d)).map (den (bup β m.length q))).toArray, defers := [] } (some d1) (.slice (some ⟨q, 0, none⟩) len cap)).eval (.tmp d1) = .slice (some ⟨q, 0, none⟩) len cap := by
    rw [h3.tm]
    simp only [Act.eval]
    rw [Array.getD_eq_getD_getElem?, List.getElem?_toArray, List.getElem?_map]
    have ht1 := Nat.le_of_ble_eq_true ht1
    have e1 : ∀ d : List (Nat × SV), (ov s d)[d1]? = some (lk d d1 s) := fun d => by simp [ov, show d1 < s.length from ht1]
    rw [e1]
    show den _ (bif Nat.beq d1 d1 then Sum.inr (m.length, sl 0 len cap) else _) = _
    rw [Nat.beq_refl, cond_true]
    show fv (sl 0 len cap) (bup β m.length q m.length) = _
    rw [bup_new]; rfl
  unfold Oper.wp
  simp only [execOp, p2, hv2, e2, Sem.run_pure, Oper.upon_value]
  refine hK _ _ (wpList_nil ?_)
  have h4 := h3.putr d2 m.length (sl 0 len cap) (by simp)
  rw [bup_new] at h4
  exact k c len cap _ _ _ hJ h4
/-- The state behind a round, where blocks that it laid are forgotten. -/
theorem St.jd {n : Nat} (h : St W (ov s d) m β a w) (idx : List Nat) (vals : List SV) (m' : List Blk) (hm : m.take m'.length = m') (hl : liveB vals m'.length = true) (e : idx.map (fun i => lk d i s) = vals) (hn : Nat.beq s.length n = true) (hpn : ∀ b q, W.pn b = some q → b < m'.length) : ∃ x, St W (ov (jk n x) (idx.zip vals)) m' β a w := by
  subst e
  have hn := Nat.beq_eq.mp hn
  let g : SV → SV := fun v => match v with
    | .inl v => .inl v
    | .inr p => bif Nat.blt p.1 m'.length then .inr p else .inl (fv p.2 (β p.1))
  have hg : ∀ v, den β (g v) = den β v := by
    intro v
    cases v with
    | inl v => rfl
    | inr p => show den β (bif Nat.blt p.1 m'.length then _ else _) = _; cases Nat.blt p.1 m'.length <;> rfl
  have hgl : ∀ v p, g v = .inr p → p.1 < m'.length := by
    intro v p hv
    cases v with
    | inl v => cases hv
    | inr r =>
      have hv : (bif Nat.blt r.1 m'.length then Sum.inr r else .inl (fv r.2 (β r.1))) = (Sum.inr p : SV) := hv
      cases hb : Nat.blt r.1 m'.length with
      | true => rw [hb] at hv; cases hv; exact Nat.le_of_ble_eq_true hb
      | false => rw [hb] at hv; cases hv
  have hfix : ∀ i ∈ idx, g (lk d i s) = lk d i s := by
    intro i hi
    have h1 := List.all_eq_true.1 hl (lk d i s) (List.mem_map.2 ⟨i, hi, rfl⟩)
    cases hv : lk d i s with
    | inl v => rfl
    | inr p =>
      rw [hv] at h1
      show (bif Nat.blt p.1 m'.length then _ else _) = _
      rw [show Nat.blt p.1 m'.length = true from h1]; rfl
  have hmap : idx.map (fun i => lk d i s) = idx.map (fun i => g (lk d i s)) := List.map_congr_left fun i hi => (hfix i hi).symm
  refine ⟨fun t => g (lk d t s), ?_⟩
  rw [hmap]
  have e : ov (jk n fun t => g (lk d t s)) (idx.zip (idx.map fun i => g (lk d i s))) = (ov s d).map g := by
    have hl : (jk n fun t => g (lk d t s)).length = s.length := by simp [jk, hn]
    unfold ov
    rw [hl, List.map_map]
    refine List.map_congr_left fun t ht => ?_
    refine lk_zip (fun t => g (lk d t s)) t ?_ idx
    have ht : t < n := by rw [← hn]; simpa using ht
    simp [slot, jk, ht]
  rw [e]
  have hlen : m'.length ≤ m.length := by
    have := congrArg List.length hm
    rw [List.length_take] at this
    omega
  have hget : ∀ (b : Nat) (c : Blk), m'[b]? = some c → m[b]? = some c := by
    intro b c hc
    rw [← hm] at hc
    rw [List.getElem?_take] at hc
    split at hc
    · exact hc
    · cases hc
  refine ⟨?_, h.bel, fun b c hc => h.row b c (hget b c hc), fun b hb => h.old b (by omega), fun b c hb hc => h.inj b c (by omega) (by omega), ?_, fun b q hb => ⟨hpn b q hb, (h.pin b q hb).2⟩⟩
  · rw [h.tm, List.map_map]
    congr 2
    exact List.map_congr_left fun x _ => (hg x).symm
  · intro t p ht hs
    have hmem : slot ((ov s d).map g) t ∈ (ov s d).map g := by
      unfold slot
      rw [List.getD_eq_getElem?_getD, List.getElem?_eq_getElem ht]
      exact List.getElem_mem ht
    rw [hs] at hmem
    obtain ⟨v, _, hv⟩ := List.mem_map.1 hmem
    exact hgl v p hv
end
end Go.Proofs.YtgojlikjcpnhjaaDoor

namespace Go.Proofs.YtgojlikjcpnhjaaDoor
open Go.RowKit
section
variable {P : Program} {W : Wd} {ops : Array Oper} {s0 s1 : List SV} {z : List Blk} {y : List (Array Value)} {o : Oper}
theorem k_s3 {t : TypeId} {p d : Nat} (b off n c : Nat) (lo hi : Option Value) (ho : o.op = .slice t (.tmp p) (lo.map .const) (hi.map .const) none) (hd : o.dst = some d) (hf : ∀ (w : World) (q : Nat), (Instr.sliceAt t (.pointer (some ⟨q, 0, none⟩)) lo hi none).run P w = .ok (.slice (some ⟨q, off, none⟩) n c) w)
    (hw : wantF ops s1 o = true := by kernel_rfl) (hp : slot s1 p = .inr (b, pt 0) := by kernel_rfl) (hs : slot s1 d = .inr (b, sl off n c) := by kernel_rfl) : Ok1 P W ops s0 s1 z y o ⟨none, none, none, false⟩ := by
  have hm : p ∈ tmpsOf o := mem_tmps (by rw [ho]; simp [Op.operands])
  refine Or.inl ⟨hw, ⟨?_, fun b h => by simp at h, fun b _ h => by simp at h, ?_⟩⟩
  · rintro b' (h | h | ⟨_, d', off', h1, h2⟩)
    · simp at h
    · simp at h
    · rw [hd] at h1; cases h1; rw [hs] at h2; cases h2; exact ⟨p, hm, _, hp⟩
  · intro β a w ha hb hr hns K Q hK
    have h3 : a.eval (.tmp p) = .pointer (some ⟨β b, 0, none⟩) := by rw [ha p hm, hp]; rfl
    have h5 : ∀ x : Option Value, (x.map Operand.const).map a.eval = x := fun x => by cases x <;> rfl
    unfold Oper.wp
    simp only [execOp, ho, h3, h5, Option.map_none, Sem.run_bind, hf w (β b), Result.andThen_ok, Sem.run_pure, Oper.upon_value]
    exact hK _ _ ⟨fun d' h => by rw [hd] at h; cases h; rw [hs]; rfl, Below.refl _ _⟩
theorem k_sa {t : TypeId} {p d : Nat} (b off n c : Nat) (ho : o.op = .sliceToArrayPointer t (.tmp p)) (hd : o.dst = some d) (hf : ∀ (w : World) (q : Nat), (Instr.arrayAt t (.slice (some ⟨q, off, none⟩) n c)).run P w = .ok (.pointer (some ⟨q, off, none⟩)) w)
    (hw : wantF ops s1 o = true := by kernel_rfl) (hp : slot s1 p = .inr (b, sl off n c) := by kernel_rfl) (hs : slot s1 d = .inr (b, pt off) := by kernel_rfl) : Ok1 P W ops s0 s1 z y o ⟨none, none, none, false⟩ := by
  have hm : p ∈ tmpsOf o := mem_tmps (by rw [ho]; simp [Op.operands])
  refine Or.inl ⟨hw, ⟨?_, fun b h => by simp at h, fun b _ h => by simp at h, ?_⟩⟩
  · rintro b' (h | h | ⟨_, d', off', h1, h2⟩)
    · simp at h
    · simp at h
    · rw [hd] at h1; cases h1; rw [hs] at h2; cases h2; exact ⟨p, hm, _, hp⟩
  · intro β a w ha hb hr hns K Q hK
    have h3 : a.eval (.tmp p) = .slice (some ⟨β b, off, none⟩) n c := by rw [ha p hm, hp]; rfl
    unfold Oper.wp
    simp only [execOp, ho, h3, Sem.run_bind, hf w (β b), Result.andThen_ok, Sem.run_pure, Oper.upon_value]
    exact hK _ _ ⟨fun d' h => by rw [hd] at h; cases h; rw [hs]; rfl, Below.refl _ _⟩
end
section
variable {P : Program} {W0 : World} {s : List SV} {m : List Blk} {β : Nat → Nat} {a : Act} {w : World}
/-- Two cells as the answer. -/
theorem s_rr {fn : Func} {R : Ending → World → Prop} {t b t' b' : Nat} {ty t0 ty' t0' : TypeId} {c c' : Array Value} {d d' : TypeDesc} (h : St (wd W0) s m β a w) (hr : fn.results = #[.cell t ty, .cell t' ty']) (hu : P.underlying ty = some d) (hu' : P.underlying ty' = some d') (hR : Below W0.heap.size W0 w → R (.returned (.tuple #[.agg c, .agg c'])) w)
    (hi : (P.info? ty).map (·.size) = some c.size) (hi' : (P.info? ty').map (·.size) = some c'.size)
    (ht : Nat.blt t s.length = true := by kernel_rfl) (hs : slot s t = .inr (b, pt 0) := by kernel_rfl) (hm : m[b]? = some (c, t0) := by kernel_rfl) (ht' : Nat.blt t' s.length = true := by kernel_rfl) (hs' : slot s t' = .inr (b', pt 0) := by kernel_rfl) (hm' : m[b']? = some (c', t0') := by kernel_rfl)
    (hd : (match d with | .struct _ | .array _ _ => true | _ => false) = true := by rfl) (hd' : (match d' with | .struct _ | .array _ _ => true | _ => false) = true := by rfl) : bodyPost P fn R .ret a w := by
  have ht := Nat.le_of_ble_eq_true ht
  have ht' := Nat.le_of_ble_eq_true ht'
  refine ⟨by rw [h.tm], .tuple #[.agg c, .agg c'], ?_, hR h.bel.below⟩
  have hrow := h.row b _ hm
  have hrow' := h.row b' _ hm'
  have htm : a.tmps[t]? = some (.pointer (some ⟨β b, 0, none⟩)) := by
    rw [h.tm]
    unfold slot at hs
    simp [show t < s.length from ht] at hs ⊢
    rw [hs]; rfl
  have htm' : a.tmps[t']? = some (.pointer (some ⟨β b', 0, none⟩)) := by
    rw [h.tm]
    unfold slot at hs'
    simp [show t' < s.length from ht'] at hs' ⊢
    rw [hs']; rfl
  have hr2 := run_loadVar_row (P := P) w (β b) t0 ty c (0, 0) _ hrow hu hd hi
  have hr2' := run_loadVar_row (P := P) w (β b') t0' ty' c' (0, 0) _ hrow' hu' hd' hi'
  simp only [results, hr]
  simp [htm, htm', asAddr, hr2, hr2']
end
/-- A wide text's bytes. -/
def cw (F : Nat → Nat) : Array Value := ab 64 F
def hi32 (F : Nat → Nat) (i : Nat) : Nat := F (32 + i)
theorem bxWd {F : Nat → Nat} (w : World) : (Instr.box 27 (.agg (cw F))).run Tryd.prog w = .ok (.pointer (some ⟨w.heap.size, 0, none⟩)) (w.alloc (.cells (cw F) 27)) := bx_agg w
theorem sl_lo (w : World) (q : Nat) : (Instr.sliceAt 27 (.pointer (some ⟨q, 0, none⟩)) none (some (.int .i64 32)) none).run Tryd.prog w = .ok (.slice (some ⟨q, 0, none⟩) 32 64) w := by kernel_rfl
theorem sl_hi (w : World) (q : Nat) : (Instr.sliceAt 27 (.pointer (some ⟨q, 0, none⟩)) (some (.int .i64 32)) none none).run Tryd.prog w = .ok (.slice (some ⟨q, 32, none⟩) 32 32) w := by kernel_rfl
theorem ar_lo (w : World) (q : Nat) : (Instr.arrayAt 23 (.slice (some ⟨q, 0, none⟩) 32 64)).run Tryd.prog w = .ok (.pointer (some ⟨q, 0, none⟩)) w := by kernel_rfl
theorem ar_hi (w : World) (q : Nat) : (Instr.arrayAt 23 (.slice (some ⟨q, 32, none⟩) 32 32)).run Tryd.prog w = .ok (.pointer (some ⟨q, 32, none⟩)) w := by kernel_rfl
theorem ck_list (F : Nat → Nat) : ck F = ((List.range 32).map fun j => Value.int .u8 ((F j : Nat) : Int)).toArray := by
  apply Array.ext_getElem?
  intro i
  have e : ((List.range 32).map fun j => Value.int .u8 ((F j : Nat) : Int)).toArray[i]? = ((List.range 32)[i]?).map fun j => Value.int .u8 ((F j : Nat) : Int) := by simp
  rw [e]
  rcases Nat.lt_or_ge i 32 with h | h
  · rw [List.getElem?_range h]; exact arr_get _ _ _ h
  · rw [List.getElem?_eq_none (by simpa using h), Array.getElem?_eq_none (by rw [ck_size]; exact h)]; rfl
theorem ld_half {F G : Nat → Nat} {off : Nat} (hoff : off ≤ 32) (hG : ∀ i, G i = F (off + i)) (t0 : TypeId) (w : World) (q : Nat) (h : w.heap[q]? = some (.cells (cw F) t0 (0, 0))) : (Instr.loadAt 23 (.pointer (some ⟨q, off, none⟩))).run Tryd.prog w = .ok (.agg (ck G)) w := by
  rw [ck_list]
  refine run_loadAt_mid w q _ 23 _ _ (fun j v hj => ?_) Tryd.underlying23 rfl (by rw [List.length_map, List.length_range]; kernel_rfl)
  rw [List.getElem?_map] at hj
  rcases Nat.lt_or_ge j 32 with h1 | h1
  · rw [List.getElem?_range h1, Option.map_some] at hj
    cases hj
    have e : (cw F)[off + j]? = some (Value.int .u8 ((F (off + j) : Nat) : Int)) := by
      unfold cw ab
      exact arr_get 64 (fun i => .int .u8 ((F i : Nat) : Int)) (off + j) (by omega)
    rw [cell_of_row _ _ _ _ _ _ h, hG j]
    exact e
  · rw [List.getElem?_eq_none (by simpa using h1)] at hj; cases hj
end Go.Proofs.YtgojlikjcpnhjaaDoor

namespace Go.Proofs.YtgojlikjcpnhjaaDoor
open Go.RowKit
/-- What is kept, and one block besides. -/
def Wd.fix (W : Wd) (w : World) (q : Nat) (h : KW W w) (hq : q < w.heap.size) : Wd := ⟨w, fun k => W.S k ∨ k = q, fun k hk => by
  rcases hk with hk | rfl
  · exact Nat.lt_of_lt_of_le (W.lt k hk) h.size
  · exact hq, fun _ => none⟩
theorem KW.fixed {W : Wd} {w v : World} {q : Nat} {h : KW W w} {hq : q < w.heap.size} (k : KW (W.fix w q h hq) v) : KW W v :=
  ⟨k.os.trans h.os, k.tape.trans h.tape, k.output.trans h.output, Nat.le_trans h.size k.size, fun b hb => (k.block b (Or.inl hb)).trans (h.block b hb)⟩
theorem KW.at {W : Wd} {w v : World} {q : Nat} {h : KW W w} {hq : q < w.heap.size} (k : KW (W.fix w q h hq) v) : v.heap[q]? = w.heap[q]? := k.block q (Or.inr rfl)
theorem nbeq_f {i b : Nat} (h : i ≠ b) : Nat.beq i b = false := by
  rw [Bool.eq_false_iff]; intro e; exact h (Nat.eq_of_beq_eq_true e)
theorem nblt_t {i b : Nat} (h : i < b) : Nat.blt i b = true := Nat.ble_eq_true_of_le h
theorem nblt_f {i b : Nat} (h : ¬ i < b) : Nat.blt i b = false := by
  rw [Bool.eq_false_iff]; intro e; exact h (Nat.le_of_ble_eq_true e)
/-- A slot, where block b is gone. -/
def gone (b q : Nat) : SV → SV
  | .inl v => .inl v
  | .inr (c, fm) => bif Nat.beq c b then .inl (fv fm q) else bif Nat.blt c b then .inr (c, fm) else .inr (c - 1, fm)
theorem getD_map_gone (s : List SV) (b q t : Nat) : slot (s.map (gone b q)) t = gone b q (slot s t) := by
  unfold slot
  rw [List.getD_eq_getElem?_getD, List.getD_eq_getElem?_getD, List.getElem?_map]
  cases s[t]? <;> rfl
theorem St.fixd {W : Wd} {s : List SV} {m : List Blk} {β : Nat → Nat} {a : Act} {w : World} (h : St W s m β a w) (b : Nat) {c : Blk} (hb : m[b]? = some c) :
    ∃ (hq : β b < w.heap.size), w.heap[β b]? = some (.cells c.1 c.2 (0, 0)) ∧ St (W.fix w (β b) h.bel hq) (s.map (gone b (β b))) (m.eraseIdx b) (fun i => if i < b then β i else β (i + 1)) a w := by
  have hr := h.row b c hb
  have hq : β b < w.heap.size := (Array.getElem?_eq_some_iff.1 hr).1
  have hbl : b < m.length := (List.getElem?_eq_some_iff.1 hb).1
  have hlen : (m.eraseIdx b).length = m.length - 1 := List.length_eraseIdx_of_lt hbl
  refine ⟨hq, hr, ?_, ⟨rfl, rfl, rfl, Nat.le_refl _, fun _ _ => rfl⟩, ?_, ?_, ?_, ?_, ?_⟩
  · rw [h.tm]
    congr 2
    rw [List.map_map]
    refine List.map_congr_left fun x _ => ?_
    rcases x with v | ⟨i, fm⟩
    · rfl
    · show fv fm (β i) = den _ (bif Nat.beq i b then .inl (fv fm (β b)) else bif Nat.blt i b then .inr (i, fm) else .inr (i - 1, fm))
      rcases Nat.lt_trichotomy i b with e | e | e
      · rw [nbeq_f (show i ≠ b by omega), nblt_t e]
        show _ = fv fm (if i < b then β i else β (i + 1))
        rw [if_pos e]
      · subst e; rw [Nat.beq_refl]; rfl
      · rw [nbeq_f (show i ≠ b by omega), nblt_f (show ¬ i < b by omega)]
        show _ = fv fm (if i - 1 < b then β (i - 1) else β (i - 1 + 1))
        rw [if_neg (by omega), show i - 1 + 1 = i by omega]
  · intro i c' hc
    rw [List.getElem?_eraseIdx] at hc
    split at hc
    · next e => rw [if_pos e]; exact h.row i c' hc
    · next e => rw [if_neg e]; exact h.row (i + 1) c' hc
  · intro i hi
    rw [hlen] at hi
    rintro (h1 | h1)
    · split at h1
      · exact h.old _ (by omega) h1
      · exact h.old _ (by omega) h1
    · split at h1
      · have := h.inj _ _ (by omega) hbl h1; omega
      · have := h.inj _ _ (by omega) hbl h1; omega
  · intro i j hi hj e
    rw [hlen] at hi hj
    split at e <;> split at e <;> (have := h.inj _ _ (by omega) (by omega) e; omega)
  · intro t p ht hs
    rw [List.length_map] at ht
    rw [getD_map_gone] at hs
    rw [hlen]
    rcases hx : slot s t with v | ⟨i, fm⟩
    · rw [hx] at hs; cases hs
    · have hl := h.live t _ ht hx
      rw [hx] at hs
      replace hs : (bif Nat.beq i b then (.inl (fv fm (β b)) : SV) else bif Nat.blt i b then .inr (i, fm) else .inr (i - 1, fm)) = .inr p := hs
      rcases Nat.lt_trichotomy i b with e | e | e
      · rw [nbeq_f (show i ≠ b by omega), nblt_t e] at hs
        cases hs; show i < _; omega
      · subst e; rw [Nat.beq_refl] at hs; cases hs
      · rw [nbeq_f (show i ≠ b by omega), nblt_f (show ¬ i < b by omega)] at hs
        cases hs; show i - 1 < _; omega
  · intro i q hx
    cases hx
theorem St.fixed {W : Wd} {s : List SV} {m : List Blk} {β : Nat → Nat} {a : Act} {w : World} (h : St W s m β a w) (b : Nat) {c : Array Value} {t : TypeId} (hb : m[b]? = some (c, t) := by kernel_rfl) :
    ∃ (V : Wd) (q : Nat) (β' : Nat → Nat), (∀ v, KW V v → KW W v) ∧ (∀ v, KW V v → v.heap[q]? = some (.cells c t (0, 0))) ∧ St V (s.map (gone b q)) (m.eraseIdx b) β' a w := by
  obtain ⟨hq, hr, h'⟩ := h.fixd b hb
  exact ⟨_, _, _, fun v k => KW.fixed (h := h.bel) (hq := hq) k, fun v k => (KW.at (h := h.bel) (hq := hq) k).trans hr, h'⟩
section
variable {P : Program} {W : Wd} {ops : Array Oper} {s0 s1 : List SV} {z : List Blk} {y : List (Array Value)} {o : Oper}
/-- A piece of a block that is kept. -/
theorem k_sp {t : TypeId} {p d : Nat} (x1 v : Value) (lo hi : Option Value) (ho : o.op = .slice t (.tmp p) (lo.map .const) (hi.map .const) none) (hd : o.dst = some d) (hf : ∀ w, (Instr.sliceAt t x1 lo hi none).run P w = .ok v w)
    (hw : wantF ops s1 o = true := by kernel_rfl) (hp : slot s1 p = .inl x1 := by kernel_rfl) (hs : slot s1 d = .inl v := by kernel_rfl) : Ok1 P W ops s0 s1 z y o ⟨none, none, none, false⟩ := by
  refine Or.inl ⟨hw, ?_⟩
  have hm : p ∈ tmpsOf o := mem_tmps (by rw [ho]; simp [Op.operands])
  refine ⟨?_, fun b h => by simp at h, fun b _ h => by simp at h, ?_⟩
  · rintro b' (h | h | ⟨_, d', off', h1, h2⟩)
    · simp at h
    · simp at h
    · rw [hd] at h1; cases h1; rw [hs] at h2; cases h2
  · intro β a w ha hb hr hns K Q hK
    have h3 : a.eval (.tmp p) = x1 := by rw [ha p hm, hp]; rfl
    have h5 : ∀ x : Option Value, (x.map Operand.const).map a.eval = x := fun x => by cases x <;> rfl
    unfold Oper.wp
    simp only [execOp, ho, h3, h5, Option.map_none, Sem.run_bind, hf w, Result.andThen_ok, Sem.run_pure, Oper.upon_value]
    exact hK _ _ ⟨fun d' h => by rw [hd] at h; cases h; rw [hs]; rfl, Below.refl _ _⟩
/-- A row of values that are plain. -/
theorem k_bs {t : TypeId} {n : Nat} {ps : Array (Nat × Operand)} (vs : Array (Nat × Value)) {d : Tmp} (b : Nat) {c : Array Value} {t0 : TypeId} (hr : ∀ w, (Instr.buildSlice t n vs).run P w = .ok (.slice (some ⟨w.heap.size, 0, none⟩) n n) (w.alloc (.cells c t0))) (ho : o.op = .buildSlice t n ps) (hd : o.dst = some d)
    (hw : wantF ops s1 o = true := by kernel_rfl) (hs : slot s1 d = .inr (b, sl 0 n n) := by kernel_rfl) (hz : zc z b = (c, t0) := by kernel_rfl) (hp : ps.all (fun q => plainB s1 q.2) = true := by kernel_rfl) (hvs : (ps.map fun q => (q.1, evS s1 q.2)) = vs := by kernel_rfl) : Ok1 P W ops s0 s1 z y o ⟨some b, none, none, false⟩ := by
  refine Or.inl ⟨hw, ⟨?_, fun b' h => ?_, fun b _ h => by simp at h, ?_⟩⟩
  · rintro b' (h | h | ⟨h, _⟩) <;> simp at h
  · cases h; exact ⟨d, _, hd, hs⟩
  · intro β a w ha hb hr' hns K Q hK
    have hmap : (ps.map fun q => (q.1, a.eval q.2)) = vs := by
      rw [← hvs]
      apply Array.map_congr_left
      intro x hx
      rw [ev_plain ha (x := x.2) (by rw [ho]; simp [Op.operands]; exact ⟨x.1, by simpa using hx⟩) (Array.all_eq_true_iff_forall_mem.1 hp x hx)]
    unfold Oper.wp execOp
    simp only [ho, Sem.run_bind, hmap, hr w, Result.andThen_ok, Sem.run_pure, Oper.upon_value]
    exact hK _ _ ⟨w.heap.size, Nat.le_refl _, fun d' fm' h1 h2 => by rw [hd] at h1; cases h1; rw [hs] at h2; cases h2; rfl, by rw [hz]; exact (MapKept.heap_alloc w _).1, (Below.refl _ _).alloc (Nat.le_refl _) _⟩
end
section
variable {P : Program} {W : Wd} {s : List SV} {m : List Blk} {β : Nat → Nat} {a : Act} {w : World}
theorem St.cell {t b : Nat} (h : St W s m β a w) (ht : Nat.blt t s.length = true) (hs : slot s t = .inr (b, pt 0)) : a.tmps[t]? = some (.pointer (some ⟨β b, 0, none⟩)) := by
  have ht := Nat.le_of_ble_eq_true ht
  rw [h.tm]
  unfold slot at hs
  simp [show t < s.length from ht] at hs ⊢
  rw [hs]; rfl
/-- Answers, whatever is kept. -/
theorem s_rcW {fn : Func} {R : Ending → World → Prop} {t b : Nat} {ty t0 : TypeId} {c : Array Value} {d : TypeDesc} (h : St W s m β a w) (hr : fn.results = #[.cell t ty]) (hu : P.underlying ty = some d) (hR : KW W w → R (.returned (.agg c)) w)
    (hi : (P.info? ty).map (·.size) = some c.size)
    (ht : Nat.blt t s.length = true := by kernel_rfl) (hs : slot s t = .inr (b, pt 0) := by kernel_rfl) (hm : m[b]? = some (c, t0) := by kernel_rfl)
    (hd : (match d with | .struct _ | .array _ _ => true | _ => false) = true := by rfl) : bodyPost P fn R .ret a w := by
  refine ⟨by rw [h.tm], .agg c, ?_, hR h.bel⟩
  have htm := h.cell ht hs
  have hr2 := run_loadVar_row (P := P) w (β b) t0 ty c (0, 0) _ (h.row b _ hm) hu hd hi
  simp only [results, hr]
  simp [htm, asAddr, hr2]
theorem s_rrW {fn : Func} {R : Ending → World → Prop} {t b t' b' : Nat} {ty t0 ty' t0' : TypeId} {c c' : Array Value} {d d' : TypeDesc} (h : St W s m β a w) (hr : fn.results = #[.cell t ty, .cell t' ty']) (hu : P.underlying ty = some d) (hu' : P.underlying ty' = some d') (hR : KW W w → R (.returned (.tuple #[.agg c, .agg c'])) w)
    (hi : (P.info? ty).map (·.size) = some c.size) (hi' : (P.info? ty').map (·.size) = some c'.size)
    (ht : Nat.blt t s.length = true := by kernel_rfl) (hs : slot s t = .inr (b, pt 0) := by kernel_rfl) (hm : m[b]? = some (c, t0) := by kernel_rfl) (ht' : Nat.blt t' s.length = true := by kernel_rfl) (hs' : slot s t' = .inr (b', pt 0) := by kernel_rfl) (hm' : m[b']? = some (c', t0') := by kernel_rfl)
    (hd : (match d with | .struct _ | .array _ _ => true | _ => false) = true := by rfl) (hd' : (match d' with | .struct _ | .array _ _ => true | _ => false) = true := by rfl) : bodyPost P fn R .ret a w := by
  refine ⟨by rw [h.tm], .tuple #[.agg c, .agg c'], ?_, hR h.bel⟩
  have htm := h.cell ht hs
  have htm' := h.cell ht' hs'
  have hr2 := run_loadVar_row (P := P) w (β b) t0 ty c (0, 0) _ (h.row b _ hm) hu hd hi
  have hr2' := run_loadVar_row (P := P) w (β b') t0' ty' c' (0, 0) _ (h.row b' _ hm') hu' hd' hi'
  simp only [results, hr]
  simp [htm, htm', asAddr, hr2, hr2']
theorem s_rtW {fn : Func} {R : Ending → World → Prop} {t : Nat} {v : Value} (h : St W s m β a w) (hr : fn.results = #[.tmp t]) (hR : KW W w → R (.returned v) w) (ht : Nat.blt t s.length = true := by kernel_rfl) (hs : slot s t = .inl v := by kernel_rfl) : bodyPost P fn R .ret a w := by
  refine ⟨by rw [h.tm], v, ?_, hR h.bel⟩
  have hv := h.eval ht hs
  have ht : t < s.length := Nat.le_of_ble_eq_true ht
  have htm : a.tmps[t]? = some v := by
    have hsz : t < a.tmps.size := by rw [h.tm]; simpa using ht
    simp only [Act.eval, Array.getD, hsz] at hv
    simp at hv
    simp [hsz, hv]
  simp only [results, hr]
  simp [htm]
end
end Go.Proofs.YtgojlikjcpnhjaaDoor

namespace Go.Proofs.YtgojlikjcpnhjaaDoor
open Go.RowKit
def RowAt (w : World) (a : Option Addr) (xs : List Value) : Prop := 0 < xs.length → ∃ b off, a = some ⟨b, off, none⟩ ∧ ∀ i v, xs[i]? = some v → w.cell? ⟨b, off + i, none⟩ = some v
theorem RowAt.later {w w' : World} {a : Option Addr} {xs : List Value} (h : RowAt w a xs) (hb : Below w.heap.size w w') : RowAt w' a xs := fun h0 => by
  obtain ⟨b, off, e, hc⟩ := h h0
  exact ⟨b, off, e, fun i v hi => cell_later hb (hc i v hi)⟩
/-- Rows one behind the other. -/
def RowsAt (w : World) (a : Option Addr) (ps : List (List Value)) : Prop := 0 < ps.length → ∃ b off, a = some ⟨b, off, none⟩ ∧ ∀ i, i < ps.length → ∃ a' cap, w.cell? ⟨b, off + i, none⟩ = some (.slice a' (ps.getD i []).length cap) ∧ RowAt w a' (ps.getD i [])
def vL (ps : List (List Value)) (k : Nat) : Nat := (ps.take k).flatten.length
theorem vflat_snoc (ps : List (List Value)) (k : Nat) (h : k < ps.length) : (ps.take (k + 1)).flatten = (ps.take k).flatten ++ ps.getD k [] := by
  rw [List.take_succ_eq_append_getElem h, List.flatten_append]; simp [List.getD_eq_getElem?_getD, h]
theorem vL_mono (ps : List (List Value)) (k : Nat) : vL ps k ≤ vL ps ps.length := by
  unfold vL
  rw [List.take_length]
  conv => rhs; rw [← List.take_append_drop k ps, List.flatten_append, List.length_append]
  omega
theorem vL_snoc (ps : List (List Value)) (k : Nat) (h : k < ps.length) : vL ps (k + 1) = vL ps k + (ps.getD k []).length := by
  unfold vL; rw [vflat_snoc ps k h, List.length_append]
theorem zeros_v (z : Value) (n : Nat) : (Builtin.zeroCells #[z] n).size = n := by simp [Builtin.zeroCells]
end Go.Proofs.YtgojlikjcpnhjaaDoor

namespace Go.Proofs.YtgojlikjcpnhjaaDoor
open Go.RowKit
theorem info_s : (Tryd.prog.info? 24).map (fun i => (i.zero, i.size, i.bytes)) = some (some (.slice none 0 0), 1, 24) := by kernel_rfl
set_option maxHeartbeats 800000 in
theorem grow_s (n : Nat) (h0 : 0 < n) (hm : n * 24 ≤ 140737488355328) (w : World) :
    Calls Tryd.prog 47 #[.slice none 0 0, .int .i64 (n : Int)] w fun e w' => ∃ cap, e = .returned (.slice (some ⟨w.heap.size, 0, none⟩) 0 cap) ∧ n ≤ cap ∧ w'.ownsRow w.heap.size 24 1 (.slice (some ⟨w.heap.size, 0, none⟩) 0 cap) 0 [] ∧ Below w.heap.size w w' := by
  obtain ⟨i0, hi, hz0, hz1, hz2⟩ := info_parts info_s
  have hr : ∀ ty w, (Builtin.append_ #[32, 3] ty #[.slice none 0 0, .int .i64 (n : Int)]).run Tryd.prog w = _ := fun ty w => Lib.run_append_nil_zeros (P := Tryd.prog) w 32 3 ty 24 i0 (.slice none 0 0) .i64 .i64 Tryd.underlying32 Tryd.underlying3 hi hz0 n h0 (by rw [hz1]; decide) (by omega) (by rw [hz2]; omega)
  have hge := grownCap_ge w n 0 24
  have hle := grownCap_le_maxLen w n 0 24 (by unfold maxLen; omega)
  have hr0 := fun ty => hr ty w
  clear hi hz0 hz1 hz2 hr
  generalize grownCap w n 0 24 = G at hr0 hge hle
  go_enter Tryd.func47, Tryd.ntmps47
  go_wp2_with (at_builtin; refine Lib.wpList_append_run _ rfl _ _ _ _ rfl _ _ rfl rfl _ _ (hr0 _) ?_)
  go_ret
  refine ⟨G, rfl, hge, ⟨rfl, .inr ⟨w.heap.size, G, _, rfl, Nat.le_refl _, World.alloc_heap_new w.drew _, Nat.zero_le _, hle, ?_, by simp⟩⟩, ((Below.refl _ w).drew).alloc (Nat.le_refl _) _⟩
  rw [Array.size_append, zeros_v, zeros_v]; omega
theorem run_append_s (w : World) (base ty : Nat) (v : Value) (n : Nat) (xs : List Value) (hown : w.ownsRow base 24 1 v n xs) (a : Option Addr) (c : Nat) (ys : List Value) (hb : RowAt w a ys) (h1 : ∀ u ∈ ys, u.oneCell' = true)
    (hbytes : (n + ys.length) * 24 ≤ 140737488355328) (hbase : base ≤ w.heap.size) :
    ∃ v' w', (Builtin.append_ #[32, 32] ty #[v, .slice a ys.length c]).run Tryd.prog w = .ok v' w' ∧ w'.ownsRow base 24 1 v' (n + ys.length) (xs ++ ys) ∧ w.grownBy w' v.ownBlock := by
  obtain ⟨i0, hi, hz0, hz1, hz2⟩ := info_parts info_s
  cases a with
  | none =>
    obtain rfl : ys = [] := by
      rcases Nat.eq_zero_or_pos ys.length with h | h
      · exact List.eq_nil_of_length_eq_zero h
      · obtain ⟨_, _, e, _⟩ := hb h; cases e
    refine ⟨v, w, ?_, by simpa using hown, ⟨rfl, rfl, rfl, Nat.le_refl _, fun _ _ _ => rfl⟩⟩
    rcases hown.2 with ⟨rfl, rfl⟩ | ⟨g, cap, cur, rfl, _, _, hnc, _⟩
    · simp [Builtin.append_, run_underlying Tryd.underlying32, sizeOf, typeInfo, hi, Builtin.lenOf, Builtin.firstCells]
    · simp [Builtin.append_, run_underlying Tryd.underlying32, sizeOf, typeInfo, hi, Builtin.lenOf, Builtin.firstCells, hnc, storeCells]
  | some ad =>
    have hnews : ∀ j u, ys[j]? = some u → w.cell? (ad.add j) = some u := by
      intro j u hj
      have hjl := (List.getElem?_eq_some_iff.1 hj).1
      obtain ⟨b, off, e, hc⟩ := hb (by omega)
      cases e
      rw [Addr.add_lit]; exact hc j u hj
    obtain ⟨v', w', hr, h4, h5, _, h6⟩ := run_append_own_at (P := Tryd.prog) w base 32 ty 24 i0 (.slice none 0 0) 1 24 Tryd.underlying32 hi hz0 hz1 hz2 rfl (by decide) v n xs hown ad ys.length c ys (by simp) hnews h1 (by unfold maxLen; omega) hbytes hbase
    exact ⟨v', w', hr, h4, h5⟩
theorem wpList_append_s {w : World} {ops : Array Oper} {rest : List Oper} {o : Oper} {a : Act} {Q : Exit → Act → World → Prop} (hgd : o.guard = none) (s x : Operand)
    (ho : o.op = .call { callee := .builtin .append, args := #[s, x], argTypes := #[32, 32] }) (base : Nat)
    (v : Value) (n : Nat) (xs : List Value) (hs : a.eval s = v) (hown : w.ownsRow base 24 1 v n xs) (ad : Option Addr) (c : Nat) (ys : List Value) (hx : a.eval x = .slice ad ys.length c) (hb : RowAt w ad ys) (h1 : ∀ u ∈ ys, u.oneCell' = true)
    (hbytes : (n + ys.length) * 24 ≤ 140737488355328) (hbase : base ≤ w.heap.size)
    (h : ∀ v' w', w'.ownsRow base 24 1 v' (n + ys.length) (xs ++ ys) → w.grownBy w' v.ownBlock → wpList Tryd.prog ops Q rest (a.put o.dst v') w') : wpList Tryd.prog ops Q (o :: rest) a w := by
  refine wpList_plain hgd fun K hK => ?_
  obtain ⟨v', w', hr, h2, h3⟩ := run_append_s w base o.type v n xs hown ad c ys hb h1 hbytes hbase
  unfold Oper.wp execOp
  simp only [ho, resolve, invoke, builtin, Sem.run_bind, Sem.run_pure, Result.andThen_ok, List.map_toArray, List.map_cons, List.map_nil, hs, hx, hr]
  exact hK _ _ (h v' w' h2 h3)
set_option maxHeartbeats 800000 in
theorem concat_s (a : Option Addr) (cap : Nat) (ps : List (List Value)) (w : World) (hp : RowsAt w a ps) (n : Nat) (hl : ps.length = n) (hn : n ≤ 1000) (h0 : 0 < ps.flatten.length) (hm : ps.flatten.length * 24 ≤ 140737488355328) (h1 : ∀ l ∈ ps, ∀ u ∈ l, u.oneCell' = true) :
    Calls Tryd.prog 21 #[.slice a n cap] w fun e w' => ∃ v, e = .returned v ∧ w'.ownsRow w.heap.size 24 1 v ps.flatten.length ps.flatten ∧ Below w.heap.size w w' := by
  have hc := hp
  unfold RowsAt at hc
  rw [hl] at hc
  have hfl : vL ps n = ps.flatten.length := by unfold vL; rw [List.take_of_length_le (by omega)]
  rw [← hfl] at h0 hm ⊢
  have HF := hide1 hfl
  have hmono : ∀ k, vL ps k ≤ vL ps n := by rw [← hl]; exact vL_mono ps
  clear hfl
  have f0 : vL ps 0 = 0 := rfl
  go_enter Tryd.func21, Tryd.ntmps21
  go_wp2
  go_loop [3, 11] (fun x i => ∃ k : Nat, k ≤ n ∧ i = .int .i64 k ∧ x = .int .i64 ((vL ps k : Nat) : Int)) (fun _ i => n - (intOf i).toNat)
  case atStart => exact ⟨0, by omega, rfl, rfl⟩
  case round =>
    obtain ⟨k, hk, rfl, rfl⟩ := hrel
    by_cases hlt : k < n
    · obtain ⟨b, off, rfl, hcell⟩ := hc (by omega)
      obtain ⟨a', cap', hck, hbs⟩ := hcell k hlt
      have hle := vL_snoc ps k (by omega)
      have hle2 := hmono (k + 1)
      obtain ⟨len, hlen⟩ : ∃ len, Hid ((ps.getD k []).length = len) := ⟨_, hide1 rfl⟩
      rw [hlen.out] at hle hck
      have HS := hide1 hle
      clear hc hcell hmono hp
      go_wp2
      refine ⟨⟨k + 1, by omega, by go_num, congrArg (Value.int .i64) ?_⟩, by simp [intOf]; omega⟩
      rw [HS.out]; omega
    · obtain rfl : k = n := by omega
      clear hlt
      go_wp2_with fail
      refine (grow_s _ h0 hm _).mono ?_
      rintro e w1 ⟨cap1, rfl, hcap1, hown1, hb1⟩
      go_wp2_with fail
      go_loopw [6, 27] (fun x i wr => ∃ j : Nat, j ≤ k ∧ i = .int .i64 j ∧ wr.ownsRow w.heap.size 24 1 x (vL ps j) (ps.take j).flatten ∧ Below w.heap.size w wr) (fun _ i _ => k - (intOf i).toNat)
      case atStart => exact ⟨0, by omega, rfl, hown1, hb1⟩
      case round =>
        obtain ⟨j, hj, rfl, hown, hbw⟩ := hrel
        by_cases hjk : j < k
        · obtain ⟨b, off, rfl, hcell⟩ := hc (by omega)
          obtain ⟨a', cap', hck, hbs⟩ := hcell j hjk
          have hle := vL_snoc ps j (by omega)
          have hle2 := hmono (j + 1)
          have hone := h1 (ps.getD j []) (by rw [List.getD_eq_getElem?_getD, List.getElem?_eq_getElem (by omega)]; exact List.getElem_mem _)
          have hfs := vflat_snoc ps j (by omega)
          obtain ⟨ys, hys⟩ : ∃ ys, Hid (ps.getD j [] = ys) := ⟨_, hide1 rfl⟩
          rw [hys.out] at hle hck hfs hone hbs
          have HS := hide1 hle
          have HT := hide1 hfs
          have hck' := cell_later hbw hck
          have hbs' := hbs.later hbw
          have hbyt : (vL ps j + ys.length) * 24 ≤ 140737488355328 := by omega
          clear hc hcell hmono hfs hck hbs hp
          go_wp2_with (at_builtin; refine wpList_append_s rfl (.tmp 31) (.tmp 32) rfl w.heap.size _ _ _ rfl hown _ cap' ys rfl hbs' hone hbyt hbw.size ?_; intro v2 w2 hown2 hg2; have hb2 := hbw.grown hg2 hbw.size (fun k e => (hown.lt k e).1))
          go_roundw
          case rel => exact ⟨j + 1, by omega, by go_num, by rw [HS.out, HT.out]; exact hown2, hb2⟩
          case measure => simp [intOf]; omega
        · obtain rfl : j = k := by omega
          go_wp2
          go_ret
          rw [List.take_of_length_le (by omega)] at hown
          exact ⟨_, rfl, hown, hbw⟩
end Go.Proofs.YtgojlikjcpnhjaaDoor

namespace Go.Proofs.YtgojlikjcpnhjaaDoor
open Go.RowKit
theorem info_b : (Tryd.prog.info? 5).map (fun i => (i.zero, i.size, i.bytes)) = some (some (.int .u8 0), 1, 1) := by kernel_rfl
set_option maxHeartbeats 800000 in
theorem grow_b (n : Nat) (h0 : 0 < n) (hm : n * 1 ≤ 140737488355328) (w : World) :
    Calls Tryd.prog 48 #[.slice none 0 0, .int .i64 (n : Int)] w fun e w' => ∃ cap, e = .returned (.slice (some ⟨w.heap.size, 0, none⟩) 0 cap) ∧ n ≤ cap ∧ w'.ownsRow w.heap.size 5 1 (.slice (some ⟨w.heap.size, 0, none⟩) 0 cap) 0 [] ∧ Below w.heap.size w w' := by
  obtain ⟨i0, hi, hz0, hz1, hz2⟩ := info_parts info_b
  have hr : ∀ ty w, (Builtin.append_ #[24, 3] ty #[.slice none 0 0, .int .i64 (n : Int)]).run Tryd.prog w = _ := fun ty w => Lib.run_append_nil_zeros (P := Tryd.prog) w 24 3 ty 5 i0 (.int .u8 0) .i64 .i64 Tryd.underlying24 Tryd.underlying3 hi hz0 n h0 (by rw [hz1]; decide) (by omega) (by rw [hz2]; omega)
  have hge := grownCap_ge w n 0 5
  have hle := grownCap_le_maxLen w n 0 5 (by unfold maxLen; omega)
  have hr0 := fun ty => hr ty w
  clear hi hz0 hz1 hz2 hr
  generalize grownCap w n 0 5 = G at hr0 hge hle
  go_enter Tryd.func48, Tryd.ntmps48
  go_wp2_with (at_builtin; refine Lib.wpList_append_run _ rfl _ _ _ _ rfl _ _ rfl rfl _ _ (hr0 _) ?_)
  go_ret
  refine ⟨G, rfl, hge, ⟨rfl, .inr ⟨w.heap.size, G, _, rfl, Nat.le_refl _, World.alloc_heap_new w.drew _, Nat.zero_le _, hle, ?_, by simp⟩⟩, ((Below.refl _ w).drew).alloc (Nat.le_refl _) _⟩
  rw [Array.size_append, zeros_v, zeros_v]; omega
theorem run_append_b (w : World) (base ty : Nat) (v : Value) (n : Nat) (xs : List Value) (hown : w.ownsRow base 5 1 v n xs) (a : Option Addr) (c : Nat) (ys : List Value) (hb : RowAt w a ys) (h1 : ∀ u ∈ ys, u.oneCell' = true)
    (hbytes : (n + ys.length) * 1 ≤ 140737488355328) (hbase : base ≤ w.heap.size) :
    ∃ v' w', (Builtin.append_ #[24, 24] ty #[v, .slice a ys.length c]).run Tryd.prog w = .ok v' w' ∧ w'.ownsRow base 5 1 v' (n + ys.length) (xs ++ ys) ∧ w.grownBy w' v.ownBlock := by
  obtain ⟨i0, hi, hz0, hz1, hz2⟩ := info_parts info_b
  cases a with
  | none =>
    obtain rfl : ys = [] := by
      rcases Nat.eq_zero_or_pos ys.length with h | h
      · exact List.eq_nil_of_length_eq_zero h
      · obtain ⟨_, _, e, _⟩ := hb h; cases e
    refine ⟨v, w, ?_, by simpa using hown, ⟨rfl, rfl, rfl, Nat.le_refl _, fun _ _ _ => rfl⟩⟩
    rcases hown.2 with ⟨rfl, rfl⟩ | ⟨g, cap, cur, rfl, _, _, hnc, _⟩
    · simp [Builtin.append_, run_underlying Tryd.underlying24, sizeOf, typeInfo, hi, Builtin.lenOf, Builtin.firstCells]
    · simp [Builtin.append_, run_underlying Tryd.underlying24, sizeOf, typeInfo, hi, Builtin.lenOf, Builtin.firstCells, hnc, storeCells]
  | some ad =>
    have hnews : ∀ j u, ys[j]? = some u → w.cell? (ad.add j) = some u := by
      intro j u hj
      have hjl := (List.getElem?_eq_some_iff.1 hj).1
      obtain ⟨b, off, e, hc⟩ := hb (by omega)
      cases e
      rw [Addr.add_lit]; exact hc j u hj
    obtain ⟨v', w', hr, h4, h5, _, h6⟩ := run_append_own_at (P := Tryd.prog) w base 24 ty 5 i0 (.int .u8 0) 1 1 Tryd.underlying24 hi hz0 hz1 hz2 rfl (by decide) v n xs hown ad ys.length c ys (by simp) hnews h1 (by unfold maxLen; omega) hbytes hbase
    exact ⟨v', w', hr, h4, h5⟩
theorem wpList_append_b {w : World} {ops : Array Oper} {rest : List Oper} {o : Oper} {a : Act} {Q : Exit → Act → World → Prop} (hgd : o.guard = none) (s x : Operand)
    (ho : o.op = .call { callee := .builtin .append, args := #[s, x], argTypes := #[24, 24] }) (base : Nat)
    (v : Value) (n : Nat) (xs : List Value) (hs : a.eval s = v) (hown : w.ownsRow base 5 1 v n xs) (ad : Option Addr) (c : Nat) (ys : List Value) (hx : a.eval x = .slice ad ys.length c) (hb : RowAt w ad ys) (h1 : ∀ u ∈ ys, u.oneCell' = true)
    (hbytes : (n + ys.length) * 1 ≤ 140737488355328) (hbase : base ≤ w.heap.size)
    (h : ∀ v' w', w'.ownsRow base 5 1 v' (n + ys.length) (xs ++ ys) → w.grownBy w' v.ownBlock → wpList Tryd.prog ops Q rest (a.put o.dst v') w') : wpList Tryd.prog ops Q (o :: rest) a w := by
  refine wpList_plain hgd fun K hK => ?_
  obtain ⟨v', w', hr, h2, h3⟩ := run_append_b w base o.type v n xs hown ad c ys hb h1 hbytes hbase
  unfold Oper.wp execOp
  simp only [ho, resolve, invoke, builtin, Sem.run_bind, Sem.run_pure, Result.andThen_ok, List.map_toArray, List.map_cons, List.map_nil, hs, hx, hr]
  exact hK _ _ (h v' w' h2 h3)
set_option maxHeartbeats 800000 in
theorem concat_b (a : Option Addr) (cap : Nat) (ps : List (List Value)) (w : World) (hp : RowsAt w a ps) (n : Nat) (hl : ps.length = n) (hn : n ≤ 1000) (h0 : 0 < ps.flatten.length) (hm : ps.flatten.length * 1 ≤ 140737488355328) (h1 : ∀ l ∈ ps, ∀ u ∈ l, u.oneCell' = true) :
    Calls Tryd.prog 23 #[.slice a n cap] w fun e w' => ∃ v, e = .returned v ∧ w'.ownsRow w.heap.size 5 1 v ps.flatten.length ps.flatten ∧ Below w.heap.size w w' := by
  have hc := hp
  unfold RowsAt at hc
  rw [hl] at hc
  have hfl : vL ps n = ps.flatten.length := by unfold vL; rw [List.take_of_length_le (by omega)]
  rw [← hfl] at h0 hm ⊢
  have HF := hide1 hfl
  have hmono : ∀ k, vL ps k ≤ vL ps n := by rw [← hl]; exact vL_mono ps
  clear hfl
  have f0 : vL ps 0 = 0 := rfl
  go_enter Tryd.func23, Tryd.ntmps23
  go_wp2
  go_loop [3, 11] (fun x i => ∃ k : Nat, k ≤ n ∧ i = .int .i64 k ∧ x = .int .i64 ((vL ps k : Nat) : Int)) (fun _ i => n - (intOf i).toNat)
  case atStart => exact ⟨0, by omega, rfl, rfl⟩
  case round =>
    obtain ⟨k, hk, rfl, rfl⟩ := hrel
    by_cases hlt : k < n
    · obtain ⟨b, off, rfl, hcell⟩ := hc (by omega)
      obtain ⟨a', cap', hck, hbs⟩ := hcell k hlt
      have hle := vL_snoc ps k (by omega)
      have hle2 := hmono (k + 1)
      obtain ⟨len, hlen⟩ : ∃ len, Hid ((ps.getD k []).length = len) := ⟨_, hide1 rfl⟩
      rw [hlen.out] at hle hck
      have HS := hide1 hle
      clear hc hcell hmono hp
      go_wp2
      refine ⟨⟨k + 1, by omega, by go_num, congrArg (Value.int .i64) ?_⟩, by simp [intOf]; omega⟩
      rw [HS.out]; omega
    · obtain rfl : k = n := by omega
      clear hlt
      go_wp2_with fail
      refine (grow_b _ h0 hm _).mono ?_
      rintro e w1 ⟨cap1, rfl, hcap1, hown1, hb1⟩
      go_wp2_with fail
      go_loopw [6, 27] (fun x i wr => ∃ j : Nat, j ≤ k ∧ i = .int .i64 j ∧ wr.ownsRow w.heap.size 5 1 x (vL ps j) (ps.take j).flatten ∧ Below w.heap.size w wr) (fun _ i _ => k - (intOf i).toNat)
      case atStart => exact ⟨0, by omega, rfl, hown1, hb1⟩
      case round =>
        obtain ⟨j, hj, rfl, hown, hbw⟩ := hrel
        by_cases hjk : j < k
        · obtain ⟨b, off, rfl, hcell⟩ := hc (by omega)
          obtain ⟨a', cap', hck, hbs⟩ := hcell j hjk
          have hle := vL_snoc ps j (by omega)
          have hle2 := hmono (j + 1)
          have hone := h1 (ps.getD j []) (by rw [List.getD_eq_getElem?_getD, List.getElem?_eq_getElem (by omega)]; exact List.getElem_mem _)
          have hfs := vflat_snoc ps j (by omega)
          obtain ⟨ys, hys⟩ : ∃ ys, Hid (ps.getD j [] = ys) := ⟨_, hide1 rfl⟩
          rw [hys.out] at hle hck hfs hone hbs
          have HS := hide1 hle
          have HT := hide1 hfs
          have hck' := cell_later hbw hck
          have hbs' := hbs.later hbw
          have hbyt : (vL ps j + ys.length) * 1 ≤ 140737488355328 := by omega
          clear hc hcell hmono hfs hck hbs hp
          go_wp2_with (at_builtin; refine wpList_append_b rfl (.tmp 31) (.tmp 32) rfl w.heap.size _ _ _ rfl hown _ cap' ys rfl hbs' hone hbyt hbw.size ?_; intro v2 w2 hown2 hg2; have hb2 := hbw.grown hg2 hbw.size (fun k e => (hown.lt k e).1))
          go_roundw
          case rel => exact ⟨j + 1, by omega, by go_num, by rw [HS.out, HT.out]; exact hown2, hb2⟩
          case measure => simp [intOf]; omega
        · obtain rfl : j = k := by omega
          go_wp2
          go_ret
          rw [List.take_of_length_le (by omega)] at hown
          exact ⟨_, rfl, hown, hbw⟩
end Go.Proofs.YtgojlikjcpnhjaaDoor

namespace Go.Proofs.YtgojlikjcpnhjaaDoor
open Go.RowKit
theorem an7 {x u : Operand} {m : Nat} (h : m < 256) (w : World) : (do eqGuard .andNot 5 x u (.int .u8 ((m : Nat) : Int)) (.int .u8 ((7 : Nat) : Int)); binOp .andNot 5 (.int .u8 ((m : Nat) : Int)) (.int .u8 ((7 : Nat) : Int))).run Tryd.prog w = .ok (.int .u8 ((m / 8 * 8 : Nat) : Int)) w := by
  have e : ∀ m : Fin 256, bits .andNot .u8 ((m.val : Nat) : Int) 7 = ((m.val / 8 * 8 : Nat) : Int) := by decide +kernel
  have e := e ⟨m, h⟩
  simp only at e
  simp [eqGuard, binOp, go_sem, e]
theorem an128 {x u : Operand} {m : Nat} (h : m < 256) (w : World) : (do eqGuard .andNot 5 x u (.int .u8 ((m : Nat) : Int)) (.int .u8 ((128 : Nat) : Int)); binOp .andNot 5 (.int .u8 ((m : Nat) : Int)) (.int .u8 ((128 : Nat) : Int))).run Tryd.prog w = .ok (.int .u8 ((m % 128 : Nat) : Int)) w := by
  have e : ∀ m : Fin 256, bits .andNot .u8 ((m.val : Nat) : Int) 128 = ((m.val % 128 : Nat) : Int) := by decide +kernel
  have e := e ⟨m, h⟩
  simp only at e
  simp [eqGuard, binOp, go_sem, e]
theorem or64 {x u : Operand} {m : Nat} (h : m < 128) (w : World) : (do eqGuard .or 5 x u (.int .u8 ((m : Nat) : Int)) (.int .u8 ((64 : Nat) : Int)); binOp .or 5 (.int .u8 ((m : Nat) : Int)) (.int .u8 ((64 : Nat) : Int))).run Tryd.prog w = .ok (.int .u8 ((m % 64 + 64 : Nat) : Int)) w := by
  have e : ∀ m : Fin 128, bits .or .u8 ((m.val : Nat) : Int) 64 = ((m.val % 64 + 64 : Nat) : Int) := by decide +kernel
  have e := e ⟨m, h⟩
  simp only at e
  simp [eqGuard, binOp, go_sem, e]
theorem ps_1 {w : World} {g : Nat} {x : Pt} {a : Option Addr} {ca : Nat} {t : TypeId} (h : w.heap[g]? = some (.cells #[.slice a x.1 ca] t (0, 0))) (ha : Bs w a x.1 x.2) (hca : x.1 ≤ ca) (hla : ∀ p, a = some p → p.block < w.heap.size) : PsAt w (some ⟨g, 0, none⟩) [x] := fun _ =>
  ⟨g, 0, rfl, fun i hi => by
    have hc : i = 0 := by simp at hi; omega
    subst hc
    exact ⟨a, ca, by rw [cell_of_row _ _ _ _ _ _ h]; rfl, ha, hca, hla⟩⟩
end Go.Proofs.YtgojlikjcpnhjaaDoor

namespace Go.Proofs.YtgojlikjcpnhjaaDoor
open Go.RowKit
theorem step_call_v {w : World} {P : Program} {ops : Array Oper} {o : Oper} {a : Act} {K : Act → World → Prop} {Q : Exit → Act → World → Prop} {E : Prop} (hgd : o.guard = none) (f : FuncId) (args : Array Operand) (tys : Array TypeId)
    (ho : o.op = .call { callee := .value (.func f), args := args, argTypes := tys }) (vs : Array Value) (hv : args.map a.eval = vs) (he : ∀ w, (callFunc f vs).run P w = .ok (.enter f vs) w) {J : Value → World → Prop} (hc : Calls P f vs w fun e w' => ∃ v, e = .returned v ∧ J v w')
    (h : ∀ v w', J v w' → K (a.put o.dst v) w') : if Region.wanted o (yielded ops a.tmps) = true then Oper.wp P o a w K Q else E := by
  have hw : Region.wanted o (yielded ops a.tmps) = true := by simp [Region.wanted, hgd]
  rw [if_pos hw]
  have hev : a.eval (.func f) = .func (.func f) #[] #[] := rfl
  unfold Oper.wp execOp
  simp only [ho, resolve, invoke, Sem.run_bind, hv, hev, Deferred.ofValue, Sem.run_pure, Result.andThen_ok, Array.append_empty, Array.empty_append, he, Oper.upon_enter]
  refine hc.mono ?_
  rintro e w' ⟨v, rfl, hJ⟩
  exact h v w' hJ
/-- Two keys, one behind the other. -/
def jn (F G : Nat → Nat) (i : Nat) : Nat := if i < 32 then F i else G (i - 32)
theorem row_key {w : World} {q : Nat} {f : Nat → Nat} {t : TypeId} (h : w.heap[q]? = some (.cells (ck f) t (0, 0))) : RowAt w (some ⟨q, 0, none⟩) (bvs 32 f) := fun _ => ⟨q, 0, rfl, fun i v hi => by
  have hl := (List.getElem?_eq_some_iff.1 hi).1
  rw [bvs_len] at hl
  rw [bvs_get f hl] at hi
  rw [cell_of_row _ _ _ _ _ _ h, ← hi, Nat.zero_add]
  exact arr_get _ _ _ hl⟩
theorem jn_app (F G : Nat → Nat) : bvs 32 F ++ bvs 32 G = bvs 64 (jn F G) := by
  rw [show bvs 32 F = bvs 32 (jn F G) from bvs_cong fun i hi => by unfold jn; rw [if_pos hi]]
  exact bvs_app fun i hi => by unfold jn; rw [if_neg (by omega), show 32 + i - 32 = i by omega]
/-- What Concat of two keys answers. -/
theorem concat_2 {w : World} {q p g : Nat} {F G : Nat → Nat} (h1 : w.heap[q]? = some (.cells (ck F) 23 (0, 0))) (h2 : w.heap[p]? = some (.cells (ck G) 23 (0, 0))) (h3 : w.heap[g]? = some (.cells #[.slice (some ⟨q, 0, none⟩) 32 32, .slice (some ⟨p, 0, none⟩) 32 32] 24 (0, 0))) :
    Calls Tryd.prog 23 #[.slice (some ⟨g, 0, none⟩) 2 2] w fun e w' => ∃ v, e = .returned v ∧ ∃ r cap cs, v = .slice (some ⟨r, 0, none⟩) 64 cap ∧ w.heap.size ≤ r ∧ 64 ≤ cap ∧ w'.heap[r]? = some (.cells cs 5 (0, 0)) ∧ cs.toList.take 64 = bvs 64 (jn F G) ∧ Below w.heap.size w w' := by
  have hf : [bvs 32 F, bvs 32 G].flatten = bvs 64 (jn F G) := by rw [← jn_app]; simp
  have hl : [bvs 32 F, bvs 32 G].flatten.length = 64 := by rw [hf, bvs_len]
  refine (concat_b (some ⟨g, 0, none⟩) 2 [bvs 32 F, bvs 32 G] w (fun _ => ⟨g, 0, rfl, fun i hi => ?_⟩) 2 rfl (by omega) (by rw [hl]; omega) (by rw [hl]; omega) (fun l hx => ?_)).mono ?_
  · have : i = 0 ∨ i = 1 := by simp at hi; omega
    rcases this with rfl | rfl
    · refine ⟨some ⟨q, 0, none⟩, 32, ?_, row_key h1⟩
      rw [cell_of_row _ _ _ _ _ _ h3]
      show _ = some (Value.slice _ (bvs 32 F).length 32)
      rw [bvs_len]; rfl
    · refine ⟨some ⟨p, 0, none⟩, 32, ?_, row_key h2⟩
      rw [cell_of_row _ _ _ _ _ _ h3]
      show _ = some (Value.slice _ (bvs 32 G).length 32)
      rw [bvs_len]; rfl
  · rcases List.mem_cons.1 hx with rfl | hx
    · exact bvs_one _ _
    · rcases List.mem_cons.1 hx with rfl | hx
      · exact bvs_one _ _
      · cases hx
  · rintro e w' ⟨v, rfl, ho, hb⟩
    rw [hf, bvs_len] at ho
    refine ⟨v, rfl, ?_⟩
    rcases ho.2 with ⟨_, e⟩ | ⟨r, cap, cur, rfl, hr, hh, hc, _, _, ht⟩
    · simp at e
    · exact ⟨r, cap, cur, rfl, hr, hc, hh, by simpa using ht, hb⟩
theorem st_wide {w : World} {b : Nat} {c : Array Value} {t0 : TypeId} {F : Nat → Nat} (hr : w.heap[b]? = some (.cells c t0 (0, 0))) (hs : c.size = 64) : (storeCells ⟨b, 0, none⟩ (cw F).toList).run Tryd.prog w = .ok () (w.setRow b (cw F)) := by
  have hz : (cw F).size = 64 := ab_size _ _
  have := run_storeCells_from (P := Tryd.prog) b t0 (cw F).toList 0 c w hr (by simp [hz, hs]) (fun v hv => (Array.all_eq_true_iff_forall_mem.1 (ab_one 64 F)) v (by simpa [cw] using hv))
  simpa [hz, hs] using this
theorem cw_list (F : Nat → Nat) : cw F = (bvs 64 F).toArray := by
  apply Array.ext_getElem?
  intro i
  have e : (bvs 64 F).toArray[i]? = (bvs 64 F)[i]? := by simp
  rw [e]
  rcases Nat.lt_or_ge i 64 with h | h
  · rw [bvs_get F h]; unfold cw ab; exact arr_get 64 (fun i => .int .u8 ((F i : Nat) : Int)) i h
  · rw [List.getElem?_eq_none (by rw [bvs_len]; exact h), Array.getElem?_eq_none (by rw [show (cw F).size = 64 from ab_size _ _]; exact h)]
theorem ar_w (r cap : Nat) (w : World) : (Instr.arrayAt 27 (.slice (some ⟨r, 0, none⟩) 64 cap)).run Tryd.prog w = .ok (.pointer (some ⟨r, 0, none⟩)) w := by kernel_rfl
theorem ld_wide {w : World} {r : Nat} {cs : Array Value} {t : TypeId} {F : Nat → Nat} (h : w.heap[r]? = some (.cells cs t (0, 0))) (ht : cs.toList.take 64 = bvs 64 F) : (Instr.loadAt 27 (.pointer (some ⟨r, 0, none⟩))).run Tryd.prog w = .ok (.agg (cw F)) w := by
  rw [cw_list]
  refine run_loadAt_mid w r 0 27 _ _ (fun j v hj => ?_) Tryd.underlying27 rfl (by rw [bvs_len]; kernel_rfl)
  have hl := (List.getElem?_eq_some_iff.1 hj).1
  rw [bvs_len] at hl
  rw [cell_of_row _ _ _ _ _ _ h, Nat.zero_add]
  rw [← ht, List.getElem?_take_of_lt hl] at hj
  simpa using hj
theorem step_load_v {w : World} {P : Program} {ops : Array Oper} {o : Oper} {a : Act} {K : Act → World → Prop} {Q : Exit → Act → World → Prop} {E : Prop} (hgd : o.guard = none) (t : TypeId) (x : Operand) (ho : o.op = .load t x) (v0 v : Value) (hx : a.eval x = v0) (hl : (Instr.loadAt t v0).run P w = .ok v w)
    (h : K (a.put o.dst v) w) : if Region.wanted o (yielded ops a.tmps) = true then Oper.wp P o a w K Q else E := by
  have hw : Region.wanted o (yielded ops a.tmps) = true := by simp [Region.wanted, hgd]
  rw [if_pos hw]
  unfold Oper.wp
  simp only [execOp, ho, hx, Sem.run_bind, hl, Result.andThen_ok, Sem.run_pure, Oper.upon_value]
  exact h
theorem step_store_v {w w' : World} {P : Program} {ops : Array Oper} {o : Oper} {a : Act} {K : Act → World → Prop} {Q : Exit → Act → World → Prop} {E : Prop} (hgd : o.guard = none) (t : TypeId) (x y : Operand) (ho : o.op = .store t x y) (v0 v : Value) (hx : a.eval x = v0) (hy : a.eval y = v) (hl : (Instr.storeAt t v0 v).run P w = .ok () w')
    (h : K (a.put o.dst undef) w') : if Region.wanted o (yielded ops a.tmps) = true then Oper.wp P o a w K Q else E := by
  have hw : Region.wanted o (yielded ops a.tmps) = true := by simp [Region.wanted, hgd]
  rw [if_pos hw]
  unfold Oper.wp
  simp only [execOp, ho, hx, hy, Sem.run_bind, hl, Result.andThen_ok, Sem.run_pure, Oper.upon_skip]
  exact h
theorem step_arr_v {w : World} {P : Program} {ops : Array Oper} {o : Oper} {a : Act} {K : Act → World → Prop} {Q : Exit → Act → World → Prop} {E : Prop} (hgd : o.guard = none) (t : TypeId) (x : Operand) (ho : o.op = .sliceToArrayPointer t x) (v0 v : Value) (hx : a.eval x = v0) (hl : (Instr.arrayAt t v0).run P w = .ok v w)
    (h : K (a.put o.dst v) w) : if Region.wanted o (yielded ops a.tmps) = true then Oper.wp P o a w K Q else E := by
  have hw : Region.wanted o (yielded ops a.tmps) = true := by simp [Region.wanted, hgd]
  rw [if_pos hw]
  unfold Oper.wp
  simp only [execOp, ho, hx, Sem.run_bind, hl, Result.andThen_ok, Sem.run_pure, Oper.upon_value]
  exact h
theorem st_wide2 {w : World} {b : Nat} {c : Array Value} {t0 : TypeId} {F : Nat → Nat} (hr : w.heap[b]? = some (.cells c t0 (0, 0))) (hs : c.size = 64) : (Instr.storeAt 27 (.pointer (some ⟨b, 0, none⟩)) (.agg (cw F))).run Tryd.prog w = .ok () (w.setRow b (cw F)) :=
  st_row (n := cw F) (by unfold cw; rw [ab_size]; kernel_rfl) (by rw [hs]; exact (ab_size _ _).symm) (ab_one _ _) w b hr
set_option maxHeartbeats 4000000 in
set_option maxRecDepth 100000 in
theorem join_d {F G : Nat → Nat} {W0 : World} : Calls Tryd.prog 11 #[.agg (ck F), .agg (ck G)] W0 fun e w' => e = .returned (.agg (cw (jn F G))) ∧ Below W0.heap.size W0 w' := by
  obtain ⟨A, hA⟩ : ∃ A, Hid (A = ck F) := ⟨_, hide1 rfl⟩
  obtain ⟨B, hB⟩ : ∃ B, Hid (B = ck G) := ⟨_, hide1 rfl⟩
  obtain ⟨R, hR⟩ : ∃ R, Hid (R = cw (jn F G)) := ⟨_, hide1 rfl⟩
  rw [← hA.out, ← hB.out, ← hR.out]
  have bxA : ∀ w : World, (Instr.box 23 (.agg A)).run Tryd.prog w = .ok (.pointer (some ⟨w.heap.size, 0, none⟩)) (w.alloc (.cells A 23)) := fun w => bx_agg w
  have bxB : ∀ w : World, (Instr.box 23 (.agg B)).run Tryd.prog w = .ok (.pointer (some ⟨w.heap.size, 0, none⟩)) (w.alloc (.cells B 23)) := fun w => bx_agg w
  have hzs : ∀ w : World, (zeroValue 27).run Tryd.prog w = .ok (.agg (ab 64 fun _ => 0)) w := fun w => by kernel_rfl
  obtain ⟨w1, hw1⟩ : ∃ w1, Hid (w1 = ((W0.alloc (.cells A 23)).alloc (.cells B 23)).alloc (.cells (ab 64 fun _ => 0) 27)) := ⟨_, hide1 rfl⟩
  have h1 : Below W0.heap.size W0 w1 := by rw [hw1.out]; exact (((Below.refl _ _).alloc (Nat.le_refl _) _).alloc (by simp) _).alloc (by simp; omega) _
  go_enter Tryd.func11, Tryd.ntmps11
  go_upto_region 1 with fail
  rw [← hw1.out]
  have rA : w1.heap[W0.heap.size]? = some (.cells A 23 (0, 0)) := by
    rw [hw1.out, Below.heap_alloc _ _ _ (by simp; omega), Below.heap_alloc _ _ _ (by simp)]; exact (MapKept.heap_alloc W0 _).1
  have rB : w1.heap[W0.heap.size + 1]? = some (.cells B 23 (0, 0)) := by
    rw [hw1.out, Below.heap_alloc _ _ _ (by simp)]
    have := (MapKept.heap_alloc (W0.alloc (.cells A 23)) (.cells B 23)).1
    rwa [show (W0.alloc (.cells A 23)).heap.size = W0.heap.size + 1 by simp] at this
  have r0 : w1.heap[W0.heap.size + 1 + 1]? = some (.cells (ab 64 fun _ => 0) 27 (0, 0)) := by
    rw [hw1.out]
    have := (MapKept.heap_alloc ((W0.alloc (.cells A 23)).alloc (.cells B 23)) (.cells (ab 64 fun _ => 0) 27)).1
    rwa [show ((W0.alloc (.cells A 23)).alloc (.cells B 23)).heap.size = W0.heap.size + 1 + 1 by simp] at this
  have hl0 := (Array.getElem?_eq_some_iff.1 r0).1
  obtain ⟨w3, hw3⟩ : ∃ w3, Hid (w3 = (w1.alloc (.cells #[.slice (some ⟨W0.heap.size, 0, none⟩) 32 32, .slice (some ⟨W0.heap.size + 1, 0, none⟩) 32 32] 24)).drew) := ⟨_, hide1 rfl⟩
  have h13 : Below w1.heap.size w1 w3 := by rw [hw3.out]; exact ((Below.refl _ _).alloc (Nat.le_refl _) _).drew
  have h3r : w3.heap[w1.heap.size]? = some (.cells #[.slice (some ⟨W0.heap.size, 0, none⟩) 32 32, .slice (some ⟨W0.heap.size + 1, 0, none⟩) 32 32] 24 (0, 0)) := by
    rw [hw3.out]; exact (MapKept.heap_alloc w1 _).1
  have rA3 := (h13.block _ (Array.getElem?_eq_some_iff.1 rA).1).trans rA
  have rB3 := (h13.block _ (Array.getElem?_eq_some_iff.1 rB).1).trans rB
  rw [hA.out] at rA3
  rw [hB.out] at rB3
  have hcall := concat_2 rA3 rB3 h3r
  rw [hw3.out] at hcall
  have hq : ∀ w4, Below w3.heap.size w3 w4 → w4.heap[W0.heap.size + 1 + 1]? = some (.cells (ab 64 fun _ => 0) 27 (0, 0)) ∧ Below W0.heap.size W0 w4 := fun w4 hb4 => ⟨((h13.trans (hb4.mono h13.size)).block _ hl0).trans r0, h1.trans ((h13.trans (hb4.mono h13.size)).mono h1.size)⟩
  rw [hw3.out] at hq
  replace hq := hide1 hq
  clear hzs bxA bxB rA rB r0 hl0 h13 h3r rA3 rB3 h1
  have hsz : R.size = 64 := by rw [hR.out]; exact ab_size _ _
  refine wp_region_any (by kernel_rfl) ?_
  change wpAny _ _ _ _ _ _ _ (World.drew _)
  refine wpAny_take (i := 0) (v := .slice (some ⟨W0.heap.size, 0, none⟩) 32 32) rfl (by kernel_rfl) (by kernel_rfl) (by kernel_rfl) (fun _ _ _ h => h) (Or.inl ⟨by rfl, fun w => by kernel_rfl⟩) ?_
  refine wpAny_take (i := 1) (v := .slice (some ⟨W0.heap.size + 1, 0, none⟩) 32 32) rfl (by kernel_rfl) (by kernel_rfl) (by kernel_rfl) (fun _ _ _ h => h) (Or.inl ⟨by rfl, fun w => by kernel_rfl⟩) ?_
  refine wpAny_ready (rs := [2]) (by kernel_rfl) (by simp) (AllReady.cons rfl (fun K hK => ?_) AllReady.nil)
  go_simp
  refine hK _ _ ?_; clear hK K
  refine wpAny_ready (rs := [3]) (by kernel_rfl) (by simp) (AllReady.cons rfl (fun K hK => ?_) AllReady.nil)
  refine step_call_v rfl 23 #[.tmp 7] _ rfl #[.slice (some ⟨w1.heap.size, 0, none⟩) 2 2] (by first | rfl | (simp [Act.eval]; done) | (simp [Act.eval, Act.put]; done)) (fun w => by kernel_rfl) hcall ?_
  rintro v w4 ⟨r, cap, cs, rfl, hr, hcap, hh, ht, hb4⟩
  obtain ⟨hr4, hb04⟩ := hq.out w4 hb4
  have hw5 := wrt_row (c' := cw (jn F G)) hr4
  have hf5 := below_wrt hb04 hw5 (by omega) hb04.size
  have hst := st_wide2 (F := jn F G) hr4 (ab_size _ _)
  have hld := ld_wide hh ht
  rw [← hR.out] at hst hw5 hf5 hld
  replace hw5 := hw5.row
  refine hK _ _ ?_; clear hK K
  refine wpAny_ready (rs := [4]) (by kernel_rfl) (by simp) (AllReady.cons rfl (fun K hK => ?_) AllReady.nil)
  refine step_arr_v rfl 27 (.tmp 8) rfl (.slice (some ⟨r, 0, none⟩) 64 cap) _ rfl (ar_w r cap w4) ?_
  refine hK _ _ ?_; clear hK K
  refine wpAny_ready (rs := [5]) (by kernel_rfl) (by simp) (AllReady.cons rfl (fun K hK => ?_) AllReady.nil)
  refine step_load_v rfl 27 (.tmp 9) rfl (.pointer (some ⟨r, 0, none⟩)) _ rfl hld ?_
  refine hK _ _ ?_; clear hK K
  refine wpAny_ready (rs := [6]) (by kernel_rfl) (by simp) (AllReady.cons rfl (fun K hK => ?_) AllReady.nil)
  refine step_store_v rfl 27 (.tmp 4) (.tmp 10) rfl (.pointer (some ⟨W0.heap.size + 1 + 1, 0, none⟩)) (.agg R) rfl rfl hst ?_
  refine hK _ _ ?_; clear hK K
  refine wpAny_done (by kernel_rfl) ?_ _
  all_goals go_wp2
  all_goals exact bodyPost_ret (v := .agg R) (results_row rfl _ rfl Tryd.underlying27 (by rw [hsz]; kernel_rfl) hw5) rfl ⟨rfl, hf5⟩
end Go.Proofs.YtgojlikjcpnhjaaDoor

namespace Go.Proofs.YtgojlikjcpnhjaaDoor
open Go.RowKit Go.Shelf
attribute [local go_sem] Oper.semAt_some

/-- Figure number i of bytes. -/
def fg (f : Nat → Nat) (i : Nat) : Nat := f (i / 8) / 2 ^ (i % 8) % 2
/-- The first k figures, from the highest on, of n in all. -/
def tops (f : Nat → Nat) (n k : Nat) : List Nat := (List.range k).map fun j => fg f (n - 1 - j)
theorem tops_succ (f : Nat → Nat) (n k : Nat) : tops f n (k + 1) = tops f n k ++ [fg f (n - 1 - k)] := by simp [tops, List.range_succ]
theorem tops_length (f : Nat → Nat) (n k : Nat) : (tops f n k).length = k := by simp [tops]

theorem fg_bit {f : Nat → Nat} (hf : ∀ i, f i < 256) (j : Nat) : bits .and .u8 (((f (j / 8) : Nat) : Int) / 2 ^ (j % 8)) 1 = ((fg f j : Nat) : Int) := by
  have h1 : ∀ k, k < 256 → bits .and .u8 ((k : Nat) : Int) 1 = ((k % 2 : Nat) : Int) := by decide +kernel
  have h2 : ((f (j / 8) : Nat) : Int) / 2 ^ (j % 8) = ((f (j / 8) / 2 ^ (j % 8) : Nat) : Int) := by
    rw [Int.natCast_ediv]; simp
  rw [h2, h1 _ (Nat.lt_of_le_of_lt (Nat.div_le_self _ _) (hf _))]
  rfl
/-- What a round must keep: two blocks. -/
def Two (p g : Nat) (A B : World) : Prop := B.heap[p]? = A.heap[p]? ∧ B.heap[g]? = A.heap[g]?

set_option maxRecDepth 100000 in
set_option maxHeartbeats 4000000 in
theorem figs_in (l p g len : Nat) (f : Nat → Nat) (hf : ∀ i, f i < 256) (hm : len ≤ 1000) (J Jx : List Nat → World → Prop)
    (hY : ∀ pre x W, J pre W → pre.length < 8 * len → YieldAt Fence.wide 3 Tryd.prog l #[.int .u8 ((x : Nat) : Int)] W fun e W' =>
      (e = .returned (.bool true) ∧ J (pre ++ [x]) W' ∧ Two p g W W') ∨ (e = .returned (.bool false) ∧ Jx (pre ++ [x]) W'))
    (W : World) (hp : W.cell? ⟨p, 0, none⟩ = some (.slice (some ⟨g, 0, none⟩) len len)) (hg : ∀ i, i < len → W.cell? ⟨g, i, none⟩ = some (.int .u8 ((f i : Nat) : Int))) (h0 : J [] W) :
    CallsIn Fence.wide 4 Tryd.prog 76 #[.func (.yield l) #[] #[], .pointer (some ⟨p, 0, none⟩)] W fun e W' => (∃ v, e = .returned v) ∧
      ((∃ ys, ys = tops f (8 * len) (8 * len) ∧ J ys W') ∨ (∃ pre, (∃ k, k ≤ 8 * len ∧ pre = tops f (8 * len) k) ∧ Jx pre W')) := by
  refine callsIn_of_wp Tryd.func76 rfl trivial ?_ rfl
  simp only [Tryd.ntmps76, List.size_toArray, List.length_cons, List.length_nil, Nat.reduceAdd, Nat.reduceSub, Array.replicate_succ, Array.replicate_zero, List.push_toArray, List.append_toArray, List.nil_append, List.cons_append]
  gi_wp2
  gi_loopw [3] (fun i wr => ∃ k : Nat, k ≤ 8 * len ∧ i = .int .i64 (8 * (len : Int) - 1 - (k : Int)) ∧ J (tops f (8 * len) k) wr ∧ wr.cell? ⟨p, 0, none⟩ = some (.slice (some ⟨g, 0, none⟩) len len) ∧ ∀ i, i < len → wr.cell? ⟨g, i, none⟩ = some (.int .u8 ((f i : Nat) : Int)))
    (fun i _ => (intOf i + 1).toNat)
  case atStart => exact ⟨0, Nat.zero_le _, by simp, h0, hp, hg⟩
  case round =>
    obtain ⟨k, hk, rfl, hJs, hp', hg'⟩ := hrel
    by_cases hlt : k < 8 * len
    · obtain ⟨j, hj⟩ : ∃ j : Nat, Hid (j + 1 + k = 8 * len) := ⟨8 * len - 1 - k, hide1 (by omega)⟩
      have ej : 8 * (len : Int) - 1 - (k : Int) = (j : Int) := by have := hj.out; omega
      rw [ej]
      obtain ⟨fn, tmps, assign, body, hy, hR⟩ := hY _ (fg f j) wr hJs (by rw [tops_length]; exact hlt)
      have hcx := hg' (j / 8) (by have := hj.out; omega)
      have hbt := fg_bit hf j
      have hjs : J (tops f (8 * len) k ++ [fg f j]) = J (tops f (8 * len) (k + 1)) := by rw [tops_succ, show 8 * len - 1 - k = j by have := hj.out; omega]
      have hjx : Jx (tops f (8 * len) k ++ [fg f j]) = Jx (tops f (8 * len) (k + 1)) := by rw [tops_succ, show 8 * len - 1 - k = j by have := hj.out; omega]
      gi_wp2
      refine hR.mono ?_
      rintro e W3 (⟨rfl, hJ3, hk3⟩ | ⟨rfl, hJx3⟩)
      · rw [hjs] at hJ3
        gi_wp2
        go_roundw
        case rel => exact ⟨k + 1, by omega, by have := hj.out; congr 1; omega, hJ3, (World.cell?_of_block hk3.1).trans hp', fun i hi => (World.cell?_of_block hk3.2).trans (hg' i hi)⟩
        case measure => simp [intOf]
      · rw [hjx] at hJx3
        gi_wp2
        refine bodyPost_ret (results_none rfl _ _ _) rfl ?_
        exact ⟨⟨_, rfl⟩, .inr ⟨_, ⟨k + 1, by omega, rfl⟩, hJx3⟩⟩
    · obtain rfl : k = 8 * len := by omega
      gi_wp2
      go_end0
      exact ⟨⟨_, rfl⟩, .inl ⟨_, rfl, hJs⟩⟩

/-- The iterator, whatever loop goes over it. -/
theorem figs_stops (p g len : Nat) (f : Nat → Nat) (hf : ∀ i, f i < 256) (hm : len ≤ 1000) (w : World) (hp : w.cell? ⟨p, 0, none⟩ = some (.slice (some ⟨g, 0, none⟩) len len)) (hg : ∀ i, i < len → w.cell? ⟨g, i, none⟩ = some (.int .u8 ((f i : Nat) : Int))) :
    SeqStopsK Fence.wide 4 Tryd.prog 76 #[.pointer (some ⟨p, 0, none⟩)] (fun x : Nat => #[Value.int .u8 ((x : Nat) : Int)]) (Two p g) (fun ys => ys = tops f (8 * len) (8 * len)) (fun pre => ∃ k, k ≤ 8 * len ∧ pre = tops f (8 * len) k) (8 * len) w :=
  fun l J Jx W hW _ _ hY h0 => figs_in l p g len f hf hm J Jx hY W (cell_later hW hp) (fun i hi => cell_later hW (hg i hi)) h0
end Go.Proofs.YtgojlikjcpnhjaaDoor

namespace Go.Proofs.YtgojlikjcpnhjaaDoor
open Go.RowKit Go.Shelf

/-- All of a world but some blocks. -/
def rw0 (w : World) (β : Nat → Nat) (k : Nat) : Wd := ⟨w, fun x => x < w.heap.size ∧ ∀ b, b < k → x ≠ β b, fun _ h => h.1, fun _ => none⟩

section
variable {P : Program} {W : Wd} {W0 : World} {s : List SV} {m : List Blk} {β : Nat → Nat} {a : Act} {w : World} {Q : Exit → Act → World → Prop}
theorem St.round (h : St W s m β a w) (s' : List SV) (hl : liveB s' m.length = true) : St (rw0 w β m.length) s' m β { tmps := (s'.map (den β)).toArray, defers := [] } w :=
  ⟨rfl, ⟨rfl, rfl, rfl, Nat.le_refl _, fun _ _ => rfl⟩, h.row, fun b hb hs => hs.2 b hb rfl, h.inj, live_of hl, fun _ _ h => by cases h⟩
theorem St.back {s2 : List SV} {m2 : List Blk} {β2 : Nat → Nat} {a2 : Act} {w2 : World} {k : Nat} (h : St (wd W0) s m β a w) (h2 : St (rw0 w β k) s2 m2 β2 a2 w2) (eb : ∀ c, c < k → β2 c = β c) (hk : m.length = k) (hl : m2.length = k) :
    St (wd W0) s m2 β a w2 ∧ KeepsOthers w w2 ∧ ∀ x, x < w.heap.size → (∀ b, b < k → x ≠ β b) → w2.heap[x]? = w.heap[x]? := by
  have h3 : ∀ x, x < w.heap.size → (∀ b, b < k → x ≠ β b) → w2.heap[x]? = w.heap[x]? := fun x h1 h4 => h2.bel.block x ⟨h1, h4⟩
  refine ⟨⟨h.tm, ⟨h2.bel.os.trans h.bel.os, h2.bel.tape.trans h.bel.tape, h2.bel.output.trans h.bel.output, Nat.le_trans h.bel.size h2.bel.size, fun x hx => ?_⟩, fun b c hc => ?_, fun b hb => h.old b (by omega), fun b c hb hc => h.inj b c (by omega) (by omega), fun t p ht hs => by have := h.live t p ht hs; omega, fun _ _ h => by cases h⟩, ⟨h2.bel.size, fun x o hx ho => ?_⟩, h3⟩
  · rw [h3 x (Nat.lt_of_lt_of_le hx h.bel.size) (fun b hb e => h.old b (by omega) (e ▸ hx))]
    exact h.bel.block x hx
  · have hb : b < k := by have := (List.getElem?_eq_some_iff.1 hc).1; omega
    rw [← eb b hb]; exact h2.row b c hc
  · rw [h3 x (Array.getElem?_eq_some_iff.1 hx).1 (fun b hb e => ?_)]
    · exact hx
    · have hb' : b < m.length := by omega
      have h5 := h.row b m[b] (by simp [hb'])
      rw [← e, hx] at h5
      cases h5; cases ho
theorem eb_trans {k : Nat} {β0 β1 β2 : Nat → Nat} (e : ∀ c, c < k → β2 c = β1 c) (eb : ∀ c, c < k → β1 c = β0 c) : ∀ c, c < k → β2 c = β0 c := fun c hc => (e c hc).trans (eb c hc)
theorem St.after {w' : World} (h : St W s m β a w) (hb : Below w.heap.size w w') (s' : List SV) (hl : liveB s' m.length = true) : St W s' m β { tmps := (s'.map (den β)).toArray, defers := [] } w' := by
  refine ⟨rfl, h.bel.quiet hb, fun b c hc => ?_, h.old, h.inj, live_of hl, h.pin⟩
  have h1 := h.row b c hc
  rw [hb.block _ (Array.getElem?_eq_some_iff.1 h1).1]; exact h1

/-- Entering where a range over a function stands. -/
theorem s_im {f : FuncId} {fn : Func} {c : Code} {args : Array Value} {R : Ending → World → Prop} {n : Nat} (hf : P.funcs[f]? = some fn) (hn : fn.ntmps = n) (hb : fn.body = some c) (s : List SV) (h : ∀ β a, St (wd W0) (ov (s ++ List.replicate (n - s.length) uu) []) [] β a W0 → c.wp P (bodyPostM Fence.wide 5 P fn R) a W0)
    (hs : (args ++ Array.replicate (n - args.size) undef) = ((s ++ List.replicate (n - s.length) uu).map (den fun _ => 0)).toArray := by kernel_rfl) (hl : (s ++ List.replicate (n - s.length) uu).all (fun v => match v with | .inl _ => true | .inr _ => false) = true := by kernel_rfl) : Calls P f args W0 R := by
  refine (callsIn_wide (n := 5)).1 (callsIn_of_wp_marks hf hb trivial (wpIn_wide.2 ?_) rfl)
  rw [hn, hs]
  refine h (fun _ => 0) _ (St.o0 ⟨rfl, kw_of (Below.refl _ _), fun b c h => by simp at h, fun b h => by simp at h, fun b c h => by simp at h, fun t p ht h => ?_, fun _ _ h => by cases h⟩)
  have := List.all_eq_true.1 hl (slot (s ++ List.replicate (n - s.length) uu) t) (by unfold slot; rw [List.getD_eq_getElem?_getD, List.getElem?_eq_getElem ht]; exact List.getElem_mem ht)
  rw [h] at this; simp at this

/-- A region: a slot is moved, and a function called with it. -/
theorem rg_call2 {id f t d1 d2 : Nat} {tys : Array TypeId} {o1 o2 : Oper} {v : Value} (hv : a.eval (.tmp t) = v) (h1 : o1.op = .move (.tmp t)) (e1 : o1.dst = some d1) (g1 : o1.guard = none) (h2 : o2.op = .call { callee := .value (.func f), args := #[.tmp d1], argTypes := tys }) (e2 : o2.dst = some d2) (g2 : o2.guard = none)
    (hsz : d1 < a.tmps.size) (he : ∀ w, (callFunc f #[v]).run P w = .ok (.enter f #[v]) w) (h : Calls P f #[v] w fun e w' => ∃ R, e = .returned R ∧ Q .normal ((a.put (some d1) v).put (some d2) R) w') : (Code.region id [o1, o2].toArray false).wp P Q a w := by
  refine wp_region_lit (wpList_plain g1 fun K hK => ?_)
  unfold Oper.wp
  simp only [execOp, h1, hv, Sem.run_pure, Oper.upon_value, e1]
  refine hK _ _ (wpList_plain g2 fun K' hK' => ?_)
  have hev : (a.put (some d1) v).eval (.tmp d1) = v := by simp [Act.put, Act.eval, Array.getD, hsz]
  have hf : (a.put (some d1) v).eval (.func f) = .func (.func f) #[] #[] := rfl
  unfold Oper.wp execOp
  simp only [h2, resolve, invoke, Sem.run_bind, List.map_toArray, List.map_cons, List.map_nil, hev, hf, Deferred.ofValue, Sem.run_pure, Result.andThen_ok, Array.append_empty, Array.empty_append, he, Oper.upon_enter]
  refine h.mono ?_
  rintro e w' ⟨R, rfl, hq⟩
  exact hK' _ _ (by rw [e2]; exact hq)
/-- A region: a slot is named anew, within a round. -/
theorem rg_as {F : Fence} {n id t d : Nat} {o : Oper} {v : Value} (hv : a.eval (.tmp t) = v) (h1 : o.op = .assign (.tmp t)) (e1 : o.dst = some d) (g1 : o.guard = none) (h : Q .normal (a.put (some d) v) w) : (Code.region id [o].toArray false).wpIn F n P Q a w := by
  refine wpIn_region_lit (wpListIn_step fun K hK => ?_)
  simp only [Region.wanted, g1, if_true]
  refine ⟨fun f hf => by simp [Oper.about, h1] at hf, ?_⟩
  rw [Oper.semAt_eq _ _ _ (by simp [h1])]
  simp only [execOp, h1, hv, Sem.run_pure, Oper.uponIn_value, e1]
  exact hK _ _ h
/-- A region: a block is read, and written into another. -/
theorem rg_ls {id t p d q g g2 : Nat} {t0 t2 : TypeId} {o1 o2 : Oper} {c c2 : Array Value} {ds : TypeDesc} (hp : a.eval (.tmp p) = .pointer (some ⟨g, 0, none⟩)) (hq : a.eval (.tmp q) = .pointer (some ⟨g2, 0, none⟩)) (h1 : o1.op = .load t (.tmp p)) (e1 : o1.dst = some d) (g1' : o1.guard = none) (h2 : o2.op = .store t (.tmp q) (.tmp d)) (e2 : o2.dst = none) (g2' : o2.guard = none)
    (hne : d ≠ q) (hsz : d < a.tmps.size) (hr1 : w.heap[g]? = some (.cells c t0 (0, 0))) (hr2 : w.heap[g2]? = some (.cells c2 t2 (0, 0))) (hu : P.underlying t = some ds) (hds : (match ds with | .struct _ | .array _ _ => true | _ => false) = true) (hi : (P.info? t).map (·.size) = some c.size) (hc2 : c2.size = c.size) (hone : c.all (·.oneCell') = true)
    (h : Q .normal (a.put (some d) (.agg c)) (w.setRow g2 c)) : (Code.region id [o1, o2].toArray false).wp P Q a w := by
  refine wp_region_lit (wpList_plain g1' fun K hK => ?_)
  have l1 := ld_row (P := P) (t := t) (t0 := t0) (c := c) hu hds hi w g hr1
  have s1 := st_row (P := P) (t := t) (t0 := t2) (c := c2) (n := c) hi hc2 hone w g2 hr2
  unfold Oper.wp
  simp only [execOp, h1, hp, Sem.run_bind, l1, Result.andThen_ok, Sem.run_pure, Oper.upon_value, e1]
  refine hK _ _ (wpList_plain g2' fun K' hK' => ?_)
  have ev1 : (a.put (some d) (.agg c)).eval (.tmp d) = .agg c := by simp [Act.put, Act.eval, Array.getD, hsz]
  have ev2 : (a.put (some d) (.agg c)).eval (.tmp q) = .pointer (some ⟨g2, 0, none⟩) := by
    rw [← hq]
    simp [Act.put, Act.eval, hne]
  unfold Oper.wp
  simp only [execOp, h2, ev1, ev2, Sem.run_bind, s1, Result.andThen_ok, Sem.run_pure, Oper.upon_skip, e2]
  exact hK' _ _ h
/-- Leaving with what a block holds, where a range over a function stood. -/
theorem mark_ret {fn : Func} {R : Ending → World → Prop} {t D g : Nat} {ty t0 : TypeId} {c : Array Value} {d : TypeDesc} (hd : a.defers = [{ target := .collected D, args := #[] }]) (hK : w.heap[D]? = some (.deferred (some []))) (hr : fn.results = #[.cell t ty]) (ht : a.tmps.getD t undef = .pointer (some ⟨g, 0, none⟩)) (hg : w.heap[g]? = some (.cells c t0 (0, 0)))
    (hu : P.underlying ty = some d) (hds : (match d with | .struct _ | .array _ _ => true | _ => false) = true) (hi : (P.info? ty).map (·.size) = some c.size) (hR : R (.returned (.agg c)) (w.putObj D (.deferred none))) : bodyPostM Fence.wide 5 P fn R .ret a w := by
  show LeavesInM Fence.wide 5 P fn a.tmps R a.defers .returning w
  rw [hd]
  refine ⟨by simp, .inl ⟨D, _, rfl, run_takeDeferred hK, ?_⟩⟩
  have hne : g ≠ D := fun e => by rw [e, hK] at hg; cases hg
  exact ⟨.agg c, results_cell_row hr _ _ g t0 c (0, 0) d ht ((World.putObj_heap_other hne).trans hg) hu hds hi, hR⟩
end
theorem two_t {p g : Nat} {A B C : World} (h : Two p g A B) (k : Two p g B C) : Two p g A C := ⟨k.1.trans h.1, k.2.trans h.2⟩
theorem two_b {p g : Nat} {w : World} (hp : p < w.heap.size) (hg : g < w.heap.size) (W : World) (l : Nat) (o o' : Obj) (hl : w.heap.size ≤ l) (_ : W.heap[l]? = some o) (_ : o.isCells = false) (_ : o.isWalk = false) : Two p g W (W.putObj l o') :=
  ⟨World.putObj_heap_other (by omega), World.putObj_heap_other (by omega)⟩

/-- So many times one: figure by figure. -/
def stepM {α : Type} (add : α → α → α) (one s : α) (x : Nat) : α := if x = 1 then add (add s s) one else add s s
def fldM {α : Type} (add : α → α → α) (no one : α) (l : List Nat) : α := l.foldl (stepM add one) no
theorem fldM_1 {α : Type} (add : α → α → α) (no one : α) (l : List Nat) : fldM add no one (l ++ [1]) = add (add (fldM add no one l) (fldM add no one l)) one := by simp [fldM, stepM]
theorem fldM_0 {α : Type} (add : α → α → α) (no one : α) (l : List Nat) {x : Nat} (hx : x ≠ 1) : fldM add no one (l ++ [x]) = add (fldM add no one l) (fldM add no one l) := by simp [fldM, stepM, hx]
theorem fldM_good {α : Type} {G : α → Prop} {add : α → α → α} {no one : α} (hG : ∀ x y, G x → G y → G (add x y)) (h0 : G no) (h1 : G one) (l : List Nat) : G (fldM add no one l) := by
  suffices h : ∀ (l : List Nat) (s : α), G s → G (l.foldl (stepM add one) s) from h l no h0
  intro l
  induction l with
  | nil => intro s h; exact h
  | cons x r ih =>
    intro s h
    refine ih _ ?_
    unfold stepM
    split
    · exact hG _ _ (hG _ _ h h) h1
    · exact hG _ _ h h
end Go.Proofs.YtgojlikjcpnhjaaDoor

namespace Go.Proofs.YtgojlikjcpnhjaaDoor
open Go.RowKit Go.Shelf
theorem eq_u8 {x u : Operand} {m n : Nat} {b : Bool} (h : decide (m = n) = b) (w : World) : (do eqGuard .eql 5 x u (.int .u8 ((m : Nat) : Int)) (.int .u8 ((n : Nat) : Int)); binOp .eql 5 (.int .u8 ((m : Nat) : Int)) (.int .u8 ((n : Nat) : Int))).run Tryd.prog w = .ok (.bool b) w := by
  have h1 : decide (((m : Nat) : Int) = ((n : Nat) : Int)) = b := by rw [← h]; congr 1; exact propext Int.natCast_inj
  subst h1; simp [eqGuard, binOp, go_sem]; rfl
theorem ld_fnres (w : World) (q : Nat) (h : w.heap[q]? = some (.cells #[.func (.func 25) #[] #[]] 91 (0, 0))) : (Instr.loadAt 91 (.pointer (some ⟨q, 0, none⟩))).run Tryd.prog w = .ok (.func (.func 25) #[] #[]) w := by
  have h1 : w.cell? ⟨q, 0, none⟩ = some (.func (.func 25) #[] #[]) := by rw [cell_of_row _ _ _ _ _ _ h]; rfl
  simp [Instr.loadAt, Instr.sureAddr, go_sem, h1]
theorem bx_fnres (w : World) : (Instr.box 91 (.func (.func 25) #[] #[])).run Tryd.prog w = .ok (.pointer (some ⟨w.heap.size, 0, none⟩)) (w.alloc (.cells #[.func (.func 25) #[] #[]] 91)) := by
  simp [Instr.box, go_sem]
set_option maxRecDepth 100000 in
set_option maxHeartbeats 4000000 in
theorem many_res {α : Type} {Vl : α → Array Value} {G : α → Prop} {add : α → α → α} {zc0 : Array Value} (hsz : ∀ x, (Tryd.prog.info? 58).map (·.size) = some (Vl x).size) (hss : ∀ x y, (Vl x).size = (Vl y).size) (hzs : ∀ y, zc0.size = (Vl y).size) (hone : ∀ x, (Vl x).all (·.oneCell') = true)
    (hal : ∀ w : World, (Instr.alloc 58 true (.tuple #[])).run Tryd.prog w = .ok (.pointer (some ⟨w.heap.size, 0, none⟩)) (w.alloc (.cells zc0 58))) (hG : ∀ x y, G x → G y → G (add x y)) (hplus : ∀ x y, G x → G y → ∀ w, Calls Tryd.prog 25 #[.agg (Vl x), .agg (Vl y)] w fun e w' => e = .returned (.agg (Vl (add x y))) ∧ Below w.heap.size w w')
    {no one : α} (h0 : G no) (h1 : G one) {aa : Option Addr} {len cap : Nat} {f : Nat → Nat} (hm : len ≤ 1000) (W0 : World) (hb : Bs W0 aa len f) :
    Calls Tryd.prog 49 #[.slice aa len cap, .agg (Vl no), .agg (Vl one), .func (.func 25) #[] #[]] W0 fun e w' => e = .returned (.agg (Vl (fldM add no one (tops f (8 * len) (8 * len))))) ∧ Below W0.heap.size W0 w' := by
  refine s_im Tryd.func49 Tryd.ntmps49 rfl [.inl (.slice aa len cap), .inl (.agg (Vl no)), .inl (.agg (Vl one)), .inl (.func (.func 25) #[] #[])] ?_
  intro β a h
  refine sym_seq ?_
  refine St.rg h [(5, .inr (0, pt 0)), (6, .inr (1, pt 0)), (7, .inr (2, pt 0)), (8, .inr (3, pt 0))] [(Vl no, 58), (Vl one, 58), (#[.func (.func 25) #[] #[]], 91), (zc0, 58)] [] [eN 0, eN 1, eN 2, eN 3] ?_ ?_
  · exact oc (k_bx 0 (.agg (Vl no)) bx_agg rfl rfl) <|
    oc (k_bx 1 (.agg (Vl one)) bx_agg rfl rfl) <|
    oc (k_bx 2 (.func (.func 25) #[] #[]) bx_fnres rfl rfl) <|
    oc (k_al 3 hal rfl rfl) <|
    ok_nil
  clear h; intro β a w h
  refine sym_then ?_
  refine sym_seq ?_
  refine St.rg h [(11, .inl (.agg (Vl no))), (9, .inr (4, pt 0))] [(zc0, 58)] [(4, Vl no)] [eR 0, eN 4, eS 4] ?_ ?_
  · exact oc (k_ld 0 0 (.agg (Vl no)) (c := Vl no) (ld_row (t0 := 58) Tryd.underlying58 rfl (hsz no)) rfl rfl) <|
    oc (k_al 4 hal rfl rfl) <|
    oc (k_st 4 0 (.agg (Vl no)) (c := zc0) (n := Vl no) (st_row (t0 := 58) (hsz no) (hzs _) (hone no)) rfl rfl) <|
    ok_nil
  clear h; intro β a w h
  refine sym_then ?_
  replace h := St.cs h (s' := [.inl (.slice aa len cap), .inl (.agg (Vl no)), .inl (.agg (Vl one)), .inl (.func (.func 25) #[] #[]), uu, .inr (0, pt 0), .inr (1, pt 0), .inr (2, pt 0), .inr (3, pt 0), .inr (4, pt 0), uu, .inl (.agg (Vl no)), uu, uu, uu, uu, uu, uu, uu, uu, uu, uu, uu, uu, uu, uu]) (m' := [(Vl no, 58), (Vl one, 58), (#[.func (.func 25) #[] #[]], 91), (zc0, 58), (Vl no, 58)]) (by kernel_rfl) (by kernel_rfl)
  have hS : ∀ pre, G (fldM add no one pre) := fldM_good hG h0 h1
  refine sym_seq ?_
  refine sym_seq ?_
  refine rg_call2 (t := 0) (d1 := 12) (d2 := 13) (f := 64) (v := .slice aa len cap) (h.eval (by kernel_rfl) (by kernel_rfl)) rfl rfl rfl rfl rfl rfl (by rw [h.tm]; simp) (fun w => by kernel_rfl) ((figures_d aa len cap f _ (hb.later h.bel.below) hm).mono ?_)
  rintro e w2 ⟨p, g, rfl, hp1, hg1, hpc, ⟨og, hgo, hgc⟩, hgi, hb2⟩
  refine ⟨_, rfl, ?_⟩
  have h2 := h.after hb2 [.inl (.slice aa len cap), .inl (.agg (Vl no)), .inl (.agg (Vl one)), .inl (.func (.func 25) #[] #[]), uu, .inr (0, pt 0), .inr (1, pt 0), .inr (2, pt 0), .inr (3, pt 0), .inr (4, pt 0), uu, .inl (.agg (Vl no)), .inl (.slice aa len cap), .inl (.func (.func 76) #[] #[.pointer (some ⟨p, 0, none⟩)]), uu, uu, uu, uu, uu, uu, uu, uu, uu, uu, uu, uu] (by kernel_rfl)
  have ea : ((a.put (some 12) (.slice aa len cap)).put (some 13) (.func (.func 76) #[] #[.pointer (some ⟨p, 0, none⟩)])) = { tmps := ([.inl (.slice aa len cap), .inl (.agg (Vl no)), .inl (.agg (Vl one)), .inl (.func (.func 25) #[] #[]), uu, .inr (0, pt 0), .inr (1, pt 0), .inr (2, pt 0), .inr (3, pt 0), .inr (4, pt 0), uu, .inl (.agg (Vl no)), .inl (.slice aa len cap), .inl (.func (.func 76) #[] #[.pointer (some ⟨p, 0, none⟩)]), uu, uu, uu, uu, uu, uu, uu, uu, uu, uu, uu, uu].map (den β)).toArray, defers := [] } := by rw [h.tm]; kernel_rfl
  rw [ea]
  have hpl : p < w2.heap.size := cell_lt hpc
  have hgl : g < w2.heap.size := (Array.getElem?_eq_some_iff.1 hgo).1
  have hbl : ∀ b, b < 5 → β b < w.heap.size := fun b hb' => by
    have h5 := h.row b _ (List.getElem?_eq_getElem (by simpa using hb'))
    exact (Array.getElem?_eq_some_iff.1 h5).1
  have hne : ∀ x, w.heap.size ≤ x → ∀ b, b < 5 → x ≠ β b := fun x hx b hb' => by have := hbl b hb'; omega
  clear ea
  refine sym_then ?_
  refine wp_block ((wpIn_wide (n := 5)).1 ?_)
  refine wpIn_rangeFunc_ownF (F := Fence.wide) (n := 5) rfl (by decide) (gf := 76) (lb := #[.pointer (some ⟨p, 0, none⟩)]) (by kernel_rfl) trivial (enters_of Tryd.func76 (by kernel_rfl) rfl) (figs_stops p g len f hb.1 hm w2 hpc hgi) two_t (two_b hpl hgl) (Below.refl _ _) (fun _ => rfl)
    (fun pre v => St (wd W0) [.inl (.slice aa len cap), .inl (.agg (Vl no)), .inl (.agg (Vl one)), .inl (.func (.func 25) #[] #[]), uu, .inr (0, pt 0), .inr (1, pt 0), .inr (2, pt 0), .inr (3, pt 0), .inr (4, pt 0), uu, .inl (.agg (Vl no)), .inl (.slice aa len cap), .inl (.func (.func 76) #[] #[.pointer (some ⟨p, 0, none⟩)]), uu, uu, uu, uu, uu, uu, uu, uu, uu, uu, uu, uu] [(Vl no, 58), (Vl one, 58), (#[.func (.func 25) #[] #[]], 91), (zc0, 58), (Vl (fldM add no one pre), 58)] β { tmps := ([.inl (.slice aa len cap), .inl (.agg (Vl no)), .inl (.agg (Vl one)), .inl (.func (.func 25) #[] #[]), uu, .inr (0, pt 0), .inr (1, pt 0), .inr (2, pt 0), .inr (3, pt 0), .inr (4, pt 0), uu, .inl (.agg (Vl no)), .inl (.slice aa len cap), .inl (.func (.func 76) #[] #[.pointer (some ⟨p, 0, none⟩)]), uu, uu, uu, uu, uu, uu, uu, uu, uu, uu, uu, uu].map (den β)).toArray, defers := [] } v ∧ w2.heap.size ≤ v.heap.size) (fun _ _ _ => False)
    (OwnFrom.and (St.own (mm := fun pre => [(Vl no, 58), (Vl one, 58), (#[.func (.func 25) #[] #[]], 91), (zc0, 58), (Vl (fldM add no one pre), 58)]) (fun k hk => Nat.lt_of_lt_of_le hk h2.bel.size)) (fun _ _ _ _ hs hg _ => Nat.le_trans hs hg.size)) (fun _ _ _ _ _ hs _ _ => hs) ⟨h2, Nat.le_refl _⟩ (fun x => { tmps := ([.inl (.slice aa len cap), .inl (.agg (Vl no)), .inl (.agg (Vl one)), .inl (.func (.func 25) #[] #[]), uu, .inr (0, pt 0), .inr (1, pt 0), .inr (2, pt 0), .inr (3, pt 0), .inr (4, pt 0), .inl (.int .u8 ((x : Nat) : Int)), .inl (.agg (Vl no)), .inl (.slice aa len cap), .inl (.func (.func 76) #[] #[.pointer (some ⟨p, 0, none⟩)]), .inl (.int .u8 ((x : Nat) : Int)), uu, uu, uu, uu, uu, uu, uu, uu, uu, uu, uu].map (den β)).toArray, defers := [] }) ?assign ?body ?done ?stop
  case assign =>
    intro l x v K hK
    refine rg_as (t := 14) (d := 10) (v := .int .u8 ((x : Nat) : Int)) (by kernel_rfl) rfl rfl rfl ?_
    have e : ∀ z : Act, z = { tmps := ([.inl (.slice aa len cap), .inl (.agg (Vl no)), .inl (.agg (Vl one)), .inl (.func (.func 25) #[] #[]), uu, .inr (0, pt 0), .inr (1, pt 0), .inr (2, pt 0), .inr (3, pt 0), .inr (4, pt 0), .inl (.int .u8 ((x : Nat) : Int)), .inl (.agg (Vl no)), .inl (.slice aa len cap), .inl (.func (.func 76) #[] #[.pointer (some ⟨p, 0, none⟩)]), .inl (.int .u8 ((x : Nat) : Int)), uu, uu, uu, uu, uu, uu, uu, uu, uu, uu, uu].map (den β)).toArray, defers := [] } → K z v := fun z h => h ▸ hK
    exact e _ (by kernel_rfl)
  case body =>
    rintro l pre x v ⟨hI, hvs⟩ hlt
    have hS := hS pre
    generalize hSe : fldM add no one pre = S at hI hS
    have h := hI.round [.inl (.slice aa len cap), .inl (.agg (Vl no)), .inl (.agg (Vl one)), .inl (.func (.func 25) #[] #[]), uu, .inr (0, pt 0), .inr (1, pt 0), .inr (2, pt 0), .inr (3, pt 0), .inr (4, pt 0), .inl (.int .u8 ((x : Nat) : Int)), .inl (.agg (Vl no)), .inl (.slice aa len cap), .inl (.func (.func 76) #[] #[.pointer (some ⟨p, 0, none⟩)]), .inl (.int .u8 ((x : Nat) : Int)), uu, uu, uu, uu, uu, uu, uu, uu, uu, uu, uu] (by kernel_rfl)
    have eb : ∀ c, c < 5 → β c = β c := fun _ _ => rfl
    replace h := h.o0
    by_cases hx : x = 1
    · refine wpIn_block ?_
      refine wpIn_seq ?_
      refine St.rgR h [(15, .inl (.func (.func 25) #[] #[])), (16, .inl (.agg (Vl S))), (17, .inl (.agg (Vl S))), (18, .inl (.agg (Vl (add S S))))] [] [(4, Vl (add S S))] [eR 2, eR 4, eR 4, nn, eS 4] ?_ ?_
      · exact oc (k_ld 2 0 (.func (.func 25) #[] #[]) (c := #[.func (.func 25) #[] #[]]) ld_fnres rfl rfl) <|
        oc (k_ld 4 0 (.agg (Vl S)) (c := Vl S) (ld_row (t0 := 58) Tryd.underlying58 rfl (hsz S)) rfl rfl) <|
        oc (k_ld 4 0 (.agg (Vl S)) (c := Vl S) (ld_row (t0 := 58) Tryd.underlying58 rfl (hsz S)) rfl rfl) <|
        oc (k_cv #[] #[.agg (Vl S), .agg (Vl S)] #[.agg (Vl S), .agg (Vl S)] (.agg (Vl (add S S))) (hplus _ _ hS hS) rfl rfl) <|
        oc (k_st 4 0 (.agg (Vl (add S S))) (c := Vl S) (n := Vl (add S S)) (st_row (t0 := 58) (hsz (add S S)) (hss _ _) (hone (add S S))) rfl rfl) <|
        ok_nil
      clear h; intro β' a w e h; replace eb := eb_trans (k := 5) e eb; clear e
      refine thenR ?_
      refine wpIn_seq ?_
      refine St.rgR h [(19, .inl (.int .u8 ((x : Nat) : Int))), (20, .inl (.bool true))] [] [] [] ?_ ?_
      · exact oz (k_mv (.inl rfl) rfl) <|
        oz (k_bi (.int .u8 ((x : Nat) : Int)) (.int .u8 ((1 : Nat) : Int)) (.bool true) (eq_u8 (m := x) (n := 1) (decide_eq_true (by omega))) rfl rfl) <|
        ok_nil
      clear h; intro β' a w e h; replace eb := eb_trans (k := 5) e eb; clear e
      refine thenR ?_
      refine s_ctR h ?_
      refine St.rgR h [(21, .inl (.func (.func 25) #[] #[])), (22, .inl (.agg (Vl (add S S)))), (23, .inl (.agg (Vl one))), (24, .inl (.agg (Vl (add (add S S) one))))] [] [(4, Vl (add (add S S) one))] [eR 2, eR 4, eR 1, nn, eS 4] ?_ ?_
      · exact oc (k_ld 2 0 (.func (.func 25) #[] #[]) (c := #[.func (.func 25) #[] #[]]) ld_fnres rfl rfl) <|
        oc (k_ld 4 0 (.agg (Vl (add S S))) (c := Vl (add S S)) (ld_row (t0 := 58) Tryd.underlying58 rfl (hsz (add S S))) rfl rfl) <|
        oc (k_ld 1 0 (.agg (Vl one)) (c := Vl one) (ld_row (t0 := 58) Tryd.underlying58 rfl (hsz one)) rfl rfl) <|
        oc (k_cv #[] #[.agg (Vl (add S S)), .agg (Vl one)] #[.agg (Vl (add S S)), .agg (Vl one)] (.agg (Vl (add (add S S) one))) (hplus _ _ (hG _ _ hS hS) h1) rfl rfl) <|
        oc (k_st 4 0 (.agg (Vl (add (add S S) one))) (c := Vl (add S S)) (n := Vl (add (add S S) one)) (st_row (t0 := 58) (hsz (add (add S S) one)) (hss _ _) (hone (add (add S S) one))) rfl rfl) <|
        ok_nil
      clear h; intro β' a w e h; replace eb := eb_trans (k := 5) e eb; clear e
      refine blk_norm ?_
      obtain ⟨q1, q2, q3⟩ := hI.back h eb rfl (by kernel_rfl)
      exact ⟨q2, ⟨q3 p (Nat.lt_of_lt_of_le hpl hvs) (hne p hp1), q3 g (Nat.lt_of_lt_of_le hgl hvs) (hne g hg1)⟩, by rw [hx, fldM_1, hSe]; exact q1, Nat.le_trans hvs q2.size⟩
    · refine wpIn_block ?_
      refine wpIn_seq ?_
      refine St.rgR h [(15, .inl (.func (.func 25) #[] #[])), (16, .inl (.agg (Vl S))), (17, .inl (.agg (Vl S))), (18, .inl (.agg (Vl (add S S))))] [] [(4, Vl (add S S))] [eR 2, eR 4, eR 4, nn, eS 4] ?_ ?_
      · exact oc (k_ld 2 0 (.func (.func 25) #[] #[]) (c := #[.func (.func 25) #[] #[]]) ld_fnres rfl rfl) <|
        oc (k_ld 4 0 (.agg (Vl S)) (c := Vl S) (ld_row (t0 := 58) Tryd.underlying58 rfl (hsz S)) rfl rfl) <|
        oc (k_ld 4 0 (.agg (Vl S)) (c := Vl S) (ld_row (t0 := 58) Tryd.underlying58 rfl (hsz S)) rfl rfl) <|
        oc (k_cv #[] #[.agg (Vl S), .agg (Vl S)] #[.agg (Vl S), .agg (Vl S)] (.agg (Vl (add S S))) (hplus _ _ hS hS) rfl rfl) <|
        oc (k_st 4 0 (.agg (Vl (add S S))) (c := Vl S) (n := Vl (add S S)) (st_row (t0 := 58) (hsz (add S S)) (hss _ _) (hone (add S S))) rfl rfl) <|
        ok_nil
      clear h; intro β' a w e h; replace eb := eb_trans (k := 5) e eb; clear e
      refine thenR ?_
      refine wpIn_seq ?_
      refine St.rgR h [(19, .inl (.int .u8 ((x : Nat) : Int))), (20, .inl (.bool false))] [] [] [] ?_ ?_
      · exact oz (k_mv (.inl rfl) rfl) <|
        oz (k_bi (.int .u8 ((x : Nat) : Int)) (.int .u8 ((1 : Nat) : Int)) (.bool false) (eq_u8 (m := x) (n := 1) (decide_eq_false (by omega))) rfl rfl) <|
        ok_nil
      clear h; intro β' a w e h; replace eb := eb_trans (k := 5) e eb; clear e
      refine thenR ?_
      refine s_cfR h ?_
      refine wpIn_skip ?_
      refine blk_norm ?_
      obtain ⟨q1, q2, q3⟩ := hI.back h eb rfl (by kernel_rfl)
      exact ⟨q2, ⟨q3 p (Nat.lt_of_lt_of_le hpl hvs) (hne p hp1), q3 g (Nat.lt_of_lt_of_le hgl hvs) (hne g hg1)⟩, by rw [fldM_0 _ _ _ _ hx, hSe]; exact q1, Nat.le_trans hvs q2.size⟩
  case done =>
    rintro D xs v hD rfl ⟨hI, hvs⟩ hK
    refine blk_norm ?_
    refine sym_then ?_
    refine sym_seq ?_
    have r1 := hI.row 4 _ rfl
    have r2 := hI.row 3 _ rfl
    have hD3 : D ≠ β 3 := fun e => by rw [e, r2] at hK; cases hK
    have hB := hI.bel.below
    have o3 := Nat.le_of_not_lt (hI.old 3 (by simp))
    refine rg_ls (p := 9) (d := 25) (q := 8) (t := 58) (by kernel_rfl) (by kernel_rfl) rfl rfl rfl rfl rfl rfl (by decide) (by simp) r1 r2 Tryd.underlying58 rfl (hsz _) (hzs _) (hone _) ?_
    refine sym_then ?_
    refine wp_ret ?_
    refine mark_ret (D := D) (g := β 3) rfl ((setRow_other _ _ _ _ hD3).trans hK) Tryd.results49 (by kernel_rfl) (setRow_heap _ _ _ _ _ _ r2) Tryd.underlying58 rfl (hsz _) ⟨rfl, ?_⟩
    refine (below_setRow hB o3 _).trans (belowK_b (w := w2) h2.bel.size _ D _ _ hD ((setRow_other _ _ _ _ hD3).trans hK) rfl rfl)
  case stop =>
    rintro D c pre v _ _ h _
    exact h.elim
end Go.Proofs.YtgojlikjcpnhjaaDoor

namespace Go.Proofs.YtgojlikjcpnhjaaDoor
open Go.RowKit Go.Shelf

/-- Four words. -/
def w4 (a b c d : Nat) : Array Value := #[.int .u64 ((a : Nat) : Int), .int .u64 ((b : Nat) : Int), .int .u64 ((c : Nat) : Int), .int .u64 ((d : Nat) : Int)]
theorem ld_w {c : Array Value} {i v : Nat} (t0 : TypeId) (hi : c[i]? = some (.int .u64 ((v : Nat) : Int))) (w : World) (q : Nat) (h : w.heap[q]? = some (.cells c t0 (0, 0))) : (Instr.loadAt 38 (.pointer (some ⟨q, i, none⟩))).run Tryd.prog w = .ok (.int .u64 ((v : Nat) : Int)) w := by
  have h1 : w.cell? ⟨q, i, none⟩ = some (.int .u64 ((v : Nat) : Int)) := by rw [cell_of_row _ _ _ _ _ _ h]; exact hi
  simp [Instr.loadAt, Instr.sureAddr, go_sem, h1]
theorem st_w {c n : Array Value} {i v : Nat} (t0 : TypeId) {u : Value} (hi : c[i]? = some u) (hs : c.setIfInBounds i (.int .u64 ((v : Nat) : Int)) = n) (w : World) (q : Nat) (h : w.heap[q]? = some (.cells c t0 (0, 0))) : (Instr.storeAt 38 (.pointer (some ⟨q, i, none⟩)) (.int .u64 ((v : Nat) : Int))).run Tryd.prog w = .ok () (w.setRow q n) := by
  have h1 : w.cell? ⟨q, i, none⟩ = some u := by rw [cell_of_row _ _ _ _ _ _ h]; exact hi
  have h2 : w.setCell ⟨q, i, none⟩ (.int .u64 ((v : Nat) : Int)) = w.setRow q n := by rw [set_row h, hs]
  have h3 : w.frozen? ⟨q, i, none⟩ = false := by simp [World.frozen?, h]
  simp [Instr.storeAt, Instr.sureAddr, go_sem, h1, h2, h3]
theorem w4_one (a b c d : Nat) : (w4 a b c d).all (·.oneCell') = true := by simp [w4, Value.oneCell']
theorem ldW {a b c d : Nat} (t0 : TypeId) (w : World) (q : Nat) (h : w.heap[q]? = some (.cells (w4 a b c d) t0 (0, 0))) : (Instr.loadAt 58 (.pointer (some ⟨q, 0, none⟩))).run Tryd.prog w = .ok (.agg (w4 a b c d)) w :=
  ld_row (c := w4 a b c d) Tryd.underlying58 rfl (by kernel_rfl) w q h
theorem stW {a b c d : Nat} {e : Array Value} (t0 : TypeId) (he : e.size = 4) (w : World) (q : Nat) (h : w.heap[q]? = some (.cells e t0 (0, 0))) : (Instr.storeAt 58 (.pointer (some ⟨q, 0, none⟩)) (.agg (w4 a b c d))).run Tryd.prog w = .ok () (w.setRow q (w4 a b c d)) :=
  st_row (n := w4 a b c d) (by kernel_rfl) he (w4_one _ _ _ _) w q h
theorem alW (w : World) : (Instr.alloc 58 true (.tuple #[])).run Tryd.prog w = .ok (.pointer (some ⟨w.heap.size, 0, none⟩)) (w.alloc (.cells (w4 0 0 0 0) 58)) := by
  simp [Instr.alloc, go_sem]
  rfl
theorem bxW {a b c d : Nat} (w : World) : (Instr.box 58 (.agg (w4 a b c d))).run Tryd.prog w = .ok (.pointer (some ⟨w.heap.size, 0, none⟩)) (w.alloc (.cells (w4 a b c d) 58)) := bx_agg w
theorem eq_u64 {x u : Operand} {m n : Nat} {b : Bool} (h : decide (m = n) = b) (w : World) : (do eqGuard .eql 38 x u (.int .u64 ((m : Nat) : Int)) (.int .u64 ((n : Nat) : Int)); binOp .eql 38 (.int .u64 ((m : Nat) : Int)) (.int .u64 ((n : Nat) : Int))).run Tryd.prog w = .ok (.bool b) w := by
  have h1 : (((m : Nat) : Int) == ((n : Nat) : Int)) = b := by rw [← h, Bool.eq_iff_iff]; simp; omega
  simp [eqGuard, binOp, go_sem, h1]

theorem ad_k {x u : Operand} {m n k : Nat} (h : m + n = k) (hk : k < 9223372036854775808) (w : World) : (do eqGuard .add 3 x u (.int .i64 ((m : Nat) : Int)) (.int .i64 ((n : Nat) : Int)); binOp .add 3 (.int .i64 ((m : Nat) : Int)) (.int .i64 ((n : Nat) : Int))).run Tryd.prog w = .ok (.int .i64 ((k : Nat) : Int)) w := by
  subst h; exact ad_i hk w
/-- The order. -/
def oL : Nat := 7237005577332262213973186563042994240857116359379907606001950938285454250989
/-- A number's words. -/
def rs (n : Nat) : Array Value := w4 (n % 18446744073709551616) (n / 18446744073709551616 % 18446744073709551616) (n / 340282366920938463463374607431768211456 % 18446744073709551616) (n / 6277101735386680763835789423207666416102355444464034512896 % 18446744073709551616)
theorem rs_of {a b c d n : Nat} (ha : a < 18446744073709551616) (hb : b < 18446744073709551616) (hc : c < 18446744073709551616) (hd : d < 18446744073709551616) (h : n = a + 18446744073709551616 * b + 340282366920938463463374607431768211456 * c + 6277101735386680763835789423207666416102355444464034512896 * d) : w4 a b c d = rs n := by
  unfold rs
  have e1 : n % 18446744073709551616 = a := by omega
  have e2 : n / 18446744073709551616 % 18446744073709551616 = b := by omega
  have e3 : n / 340282366920938463463374607431768211456 % 18446744073709551616 = c := by omega
  have e4 : n / 6277101735386680763835789423207666416102355444464034512896 % 18446744073709551616 = d := by omega
  rw [e1, e2, e3, e4]
end Go.Proofs.YtgojlikjcpnhjaaDoor

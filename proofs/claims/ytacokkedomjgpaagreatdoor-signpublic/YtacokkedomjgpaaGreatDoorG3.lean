/- Sum3, Sum4, N6, N7, N8, A, N9, N10, N11, SG5, B, C, W2, D, F, J, K, L: laid together. -/
import Derived.Deep.RegionLaw
import Derived.Deep.Cut
import Derived.Deep.CutRange
import Derived.Deep.RegionWith
import Derived.Deep.QuietTactic
import Derived.BigQuiet
import Derived.BigRegion
import Derived.Handy
import Derived.Laws.Externs
import Derived.Shelf.Spec.BitsCarry
import Derived.Lib.Mul64
import Derived.Shelf.Bits.Mul64
import Derived.Deep.RegionHeld3
import Derived.Laws.BitsAllLaws
import Derived.Test.YtacokkedomjgpaaGreatDoorG2
import Derived.Test.YtacokkedomjgpaaGreatDoorRows
import Derived.Test.YtacokkedomjgpaaGreatDoorG1
namespace Go.Proofs.YtacokkedomjgpaaGreatDoor.Lo
open Go.RowKit
theorem gl_ne {H p : Nat → Nat} {fl ln q : Nat} {w : World} (hg : Gl w) (hq : w.heap[q]? = some (.cells (dgc H p fl ln) 96 (0, 0))) : q ≠ 0 ∧ q ≠ 1 := by
  have h1 := dg_cell (i := 0) (by decide) hq
  rw [dgv_pl (by decide)] at h1
  constructor
  · rintro rfl
    rw [hg.1 0 (by decide)] at h1
    cases h1
  · rintro rfl
    rw [hg.2 0 (by decide)] at h1
    cases h1
theorem gl_cu {H p : Nat → Nat} {fl ln q k : Nat} {W0 : World} (hg : Gl W0) (hq : W0.heap[q]? = some (.cells (dgc H p fl ln) 96 (0, 0))) (hk : k < 80) (w : World) (hw : KW (wdx W0 q) w) : (Instr.loadAt 42 (.pointer (some ⟨1, k, none⟩))).run Tryz.prog w = .ok (.int .u64 (cu k : Nat)) w := by
  have h0 := hg.2 k hk
  have hlt : 1 < W0.heap.size := by
    rcases Nat.lt_or_ge 1 W0.heap.size with h | h
    · exact h
    · unfold World.cell? at h0; rw [Array.getElem?_eq_none h] at h0; cases h0
  have hb := hw.block 1 ⟨hlt, fun e => (gl_ne hg hq).2 e.symm⟩
  have h1 : w.cell? ⟨1, k, none⟩ = some (.int .u64 (cu k : Nat)) := by
    rw [← h0]; exact World.cell?_of_block (w := W0) hb
  simp [Instr.loadAt, Instr.sureAddr, go_sem, h1]
theorem max_B : 18446744073709551615 < B64 := by unfold B64; omega
def vS (H R : Nat → Nat) : Nat → Nat → Nat
  | 0 => H
  | t + 1 => fun i => match i with
    | 0 => (((((((vS H R t 7 + hiW (vS H R t 4) 14 18 41) % B64) + ((vS H R t 4 &&& vS H R t 5) ||| ((18446744073709551615 ^^^ vS H R t 4) &&& vS H R t 6))) % B64 + cu t / 2 ^ 0) % B64 + R t) % B64) + ((hiW (vS H R t 0) 28 34 39 + (((vS H R t 0 &&& vS H R t 1) ||| (vS H R t 0 &&& vS H R t 2)) ||| (vS H R t 1 &&& vS H R t 2))) % B64)) % B64
    | 1 => vS H R t 0
    | 2 => vS H R t 1
    | 3 => vS H R t 2
    | 4 => (vS H R t 3 + (((((vS H R t 7 + hiW (vS H R t 4) 14 18 41) % B64) + ((vS H R t 4 &&& vS H R t 5) ||| ((18446744073709551615 ^^^ vS H R t 4) &&& vS H R t 6))) % B64 + cu t / 2 ^ 0) % B64 + R t) % B64) % B64
    | 5 => vS H R t 4
    | 6 => vS H R t 5
    | 7 => vS H R t 6
    | _ => 0
theorem vi {m n : Nat} (h : m = n) : Value.int .u64 (m : Nat) = Value.int .u64 (n : Nat) := by rw [h]
theorem vS_z (H R : Nat → Nat) (i : Nat) : H i = vS H R 0 i := rfl
theorem vS_s0 (H R : Nat → Nat) (t : Nat) : ((((((vS H R t 7 + hiW (vS H R t 4) 14 18 41) % B64 + ((vS H R t 4 &&& vS H R t 5) ||| ((18446744073709551615 ^^^ vS H R t 4) &&& vS H R t 6))) % B64 + cu t / 2 ^ 0) % B64 + R t) % B64) + ((hiW (vS H R t 0) 28 34 39 + (((vS H R t 0 &&& vS H R t 1) ||| (vS H R t 0 &&& vS H R t 2)) ||| (vS H R t 1 &&& vS H R t 2))) % B64)) % B64 = vS H R (t + 1) 0 := by simp only [vS]
theorem vS_s4 (H R : Nat → Nat) (t : Nat) : (vS H R t 3 + (((((vS H R t 7 + hiW (vS H R t 4) 14 18 41) % B64 + ((vS H R t 4 &&& vS H R t 5) ||| ((18446744073709551615 ^^^ vS H R t 4) &&& vS H R t 6))) % B64 + cu t / 2 ^ 0) % B64 + R t) % B64)) % B64 = vS H R (t + 1) 4 := by simp only [vS]
theorem vS_s1 (H R : Nat → Nat) (t : Nat) : vS H R t 0 = vS H R (t + 1) 1 := by simp only [vS]
theorem vS_s2 (H R : Nat → Nat) (t : Nat) : vS H R t 1 = vS H R (t + 1) 2 := by simp only [vS]
theorem vS_s3 (H R : Nat → Nat) (t : Nat) : vS H R t 2 = vS H R (t + 1) 3 := by simp only [vS]
theorem vS_s5 (H R : Nat → Nat) (t : Nat) : vS H R t 4 = vS H R (t + 1) 5 := by simp only [vS]
theorem vS_s6 (H R : Nat → Nat) (t : Nat) : vS H R t 5 = vS H R (t + 1) 6 := by simp only [vS]
theorem vS_s7 (H R : Nat → Nat) (t : Nat) : vS H R t 6 = vS H R (t + 1) 7 := by simp only [vS]
theorem vS_lt {H R : Nat → Nat} (hH : ∀ i, H i < B64) : ∀ t i, vS H R t i < B64
  | 0, i => hH i
  | t + 1, 0 => mod_B _
  | t + 1, 1 => vS_lt hH t 0
  | t + 1, 2 => vS_lt hH t 1
  | t + 1, 3 => vS_lt hH t 2
  | t + 1, 4 => mod_B _
  | t + 1, 5 => vS_lt hH t 4
  | t + 1, 6 => vS_lt hH t 5
  | t + 1, 7 => vS_lt hH t 6
  | _ + 1, _ + 8 => (by decide : 0 < B64)
def hF (H V : Nat → Nat) : Nat → Nat → Nat
  | 0 => H
  | k + 1 => updN (hF H V k) k ((hF H V k k + V k) % B64)
theorem hF_s (H V p : Nat → Nat) (k fl ln : Nat) : dgc (updN (hF H V k) k ((hF H V k k + V k) % B64)) p fl ln = dgc (hF H V (k + 1)) p fl ln := rfl
def mixH (H p : Nat → Nat) : Nat → Nat := hF H (vS H (r80 p 64) 80) 8
theorem hF_lt {H V : Nat → Nat} (hH : ∀ i, H i < B64) : ∀ k i, hF H V k i < B64
  | 0, i => hH i
  | k + 1, i => upd_lt (hF_lt hH k) (mod_B _) i
theorem mixH_lt {H p : Nat → Nat} (hH : ∀ i, H i < B64) (i : Nat) : mixH H p i < B64 := hF_lt hH 8 i
set_option maxHeartbeats 8000000 in
theorem mix_w {H p R : Nat → Nat} {fl ln q n m8 : Nat} {W0 : World} (hn : n = 80) (hm8 : m8 = 8) (cR : ∀ (w : World) (q : Nat), w.heap[q]? = some (.cells (dgc H p fl ln) 96 (0, 0)) → Calls Tryz.prog 103 #[.pointer (some ⟨q, 0, none⟩)] w fun e w' => e = .returned (.agg (au 80 R)) ∧ Below w.heap.size w w') (hg : Gl W0) (hH : ∀ i, H i < B64) (hq : W0.heap[q]? = some (.cells (dgc H p fl ln) 96 (0, 0))) : Calls Tryz.prog 93 #[.pointer (some ⟨q, 0, none⟩)] W0 fun e w' => e = .returned (.tuple #[]) ∧ Wrt W0 w' q (dgc (hF H (vS H R n) m8) p fl ln) 96 := by
  refine s_ip Tryz.func93 Tryz.ntmps93 rfl hq [.inr (0, pt 0)] ?_
  intro β a h
  refine sym_seq ?_
  refine St.rg h [(19, .inr (0, pt 0)), (20, .inr (0, pt 0)), (21, .inr (0, pt 0)), (22, .inl (.agg pl14)), (2, .inr (1, pt 0))] [(ai 14 (fun _ => 0), 92)] [(1, pl14)] [nn, nn, nn, eR 0, eN 1, eS 1] ?_ ?_
  · exact oc (k_mp 0 (pt 0) (.inl rfl) rfl) <|
    oc (k_nc 0 0 rfl rfl) <|
    oc (k_fa 0 0 0 rfl rfl) <|
    oc (k_ld 0 0 (.agg pl14) (c := dgc H p fl ln) (ld_dgP (H := H) (p := p) (fl := fl) (ln := ln) (t0 := 96)) rfl rfl) <|
    oc (k_al 1 alPl rfl rfl) <|
    oc (k_st 1 0 (.agg pl14) (c := ai 14 (fun _ => 0)) (n := pl14) (stPl (c := ai 14 (fun _ => 0)) 92 (ai_size _ _)) rfl rfl) <|
    ok_nil
  clear h; intro β a w h
  refine sym_then ?_
  refine sym_seq ?_
  refine St.r0 h [(23, .inr (0, pt 0)), (24, .inr (0, pt 0)), (25, .inr (0, pt 14)), (26, .inr (0, pt (14 + 0))), (27, .inl (.int .u64 ((H 0) : Nat))), (28, .inr (0, pt 0)), (29, .inr (0, pt 0)), (30, .inr (0, pt 14)), (31, .inr (0, pt (14 + 1))), (32, .inl (.int .u64 ((H 1) : Nat))), (33, .inr (0, pt 0)), (34, .inr (0, pt 0)), (35, .inr (0, pt 14)), (36, .inr (0, pt (14 + 2))), (37, .inl (.int .u64 ((H 2) : Nat))), (38, .inr (0, pt 0)), (39, .inr (0, pt 0)), (40, .inr (0, pt 14)), (41, .inr (0, pt (14 + 3))), (42, .inl (.int .u64 ((H 3) : Nat))), (3, .inl (.int .u64 ((H 0) : Nat))), (4, .inl (.int .u64 ((H 1) : Nat))), (5, .inl (.int .u64 ((H 2) : Nat))), (6, .inl (.int .u64 ((H 3) : Nat)))] [nn, nn, nn, nn, eR 0, nn, nn, nn, nn, eR 0, nn, nn, nn, nn, eR 0, nn, nn, nn, nn, eR 0] ?_ ?_
  · exact oc (k_mp 0 (pt 0) (.inl rfl) rfl) <|
    oc (k_nc 0 0 rfl rfl) <|
    oc (k_fa 0 0 14 rfl rfl) <|
    oc (k_ia 0 14 ((14 + 0)) (.int .i64 (0 : Nat)) (ix8w (i := 0) (by omega)) rfl rfl) <|
    oc (k_ld 0 ((14 + 0)) (.int .u64 ((H 0) : Nat)) (c := dgc H p fl ln) (ld_dgW (H := H) (p := p) (fl := fl) (ln := ln) (t0 := 96) (i := 0) (by decide)) rfl rfl) <|
    oc (k_mp 0 (pt 0) (.inl rfl) rfl) <|
    oc (k_nc 0 0 rfl rfl) <|
    oc (k_fa 0 0 14 rfl rfl) <|
    oc (k_ia 0 14 ((14 + 1)) (.int .i64 (1 : Nat)) (ix8w (i := 1) (by omega)) rfl rfl) <|
    oc (k_ld 0 ((14 + 1)) (.int .u64 ((H 1) : Nat)) (c := dgc H p fl ln) (ld_dgW (H := H) (p := p) (fl := fl) (ln := ln) (t0 := 96) (i := 1) (by decide)) rfl rfl) <|
    oc (k_mp 0 (pt 0) (.inl rfl) rfl) <|
    oc (k_nc 0 0 rfl rfl) <|
    oc (k_fa 0 0 14 rfl rfl) <|
    oc (k_ia 0 14 ((14 + 2)) (.int .i64 (2 : Nat)) (ix8w (i := 2) (by omega)) rfl rfl) <|
    oc (k_ld 0 ((14 + 2)) (.int .u64 ((H 2) : Nat)) (c := dgc H p fl ln) (ld_dgW (H := H) (p := p) (fl := fl) (ln := ln) (t0 := 96) (i := 2) (by decide)) rfl rfl) <|
    oc (k_mp 0 (pt 0) (.inl rfl) rfl) <|
    oc (k_nc 0 0 rfl rfl) <|
    oc (k_fa 0 0 14 rfl rfl) <|
    oc (k_ia 0 14 ((14 + 3)) (.int .i64 (3 : Nat)) (ix8w (i := 3) (by omega)) rfl rfl) <|
    oc (k_ld 0 ((14 + 3)) (.int .u64 ((H 3) : Nat)) (c := dgc H p fl ln) (ld_dgW (H := H) (p := p) (fl := fl) (ln := ln) (t0 := 96) (i := 3) (by decide)) rfl rfl) <|
    oz (k_mv (.inr rfl) rfl) <|
    oz (k_mv (.inr rfl) rfl) <|
    oz (k_mv (.inr rfl) rfl) <|
    oz (k_mv (.inr rfl) rfl) <|
    ok_nil
  clear h; intro β a w h
  refine sym_then ?_
  refine sym_seq ?_
  refine St.r0 h [(43, .inr (0, pt 0)), (44, .inr (0, pt 0)), (45, .inr (0, pt 14)), (46, .inr (0, pt (14 + 4))), (47, .inl (.int .u64 ((H 4) : Nat))), (48, .inr (0, pt 0)), (49, .inr (0, pt 0)), (50, .inr (0, pt 14)), (51, .inr (0, pt (14 + 5))), (52, .inl (.int .u64 ((H 5) : Nat))), (53, .inr (0, pt 0)), (54, .inr (0, pt 0)), (55, .inr (0, pt 14)), (56, .inr (0, pt (14 + 6))), (57, .inl (.int .u64 ((H 6) : Nat))), (58, .inr (0, pt 0)), (59, .inr (0, pt 0)), (60, .inr (0, pt 14)), (61, .inr (0, pt (14 + 7))), (62, .inl (.int .u64 ((H 7) : Nat))), (7, .inl (.int .u64 ((H 4) : Nat))), (8, .inl (.int .u64 ((H 5) : Nat))), (9, .inl (.int .u64 ((H 6) : Nat))), (10, .inl (.int .u64 ((H 7) : Nat)))] [nn, nn, nn, nn, eR 0, nn, nn, nn, nn, eR 0, nn, nn, nn, nn, eR 0, nn, nn, nn, nn, eR 0] ?_ ?_
  · exact oc (k_mp 0 (pt 0) (.inl rfl) rfl) <|
    oc (k_nc 0 0 rfl rfl) <|
    oc (k_fa 0 0 14 rfl rfl) <|
    oc (k_ia 0 14 ((14 + 4)) (.int .i64 (4 : Nat)) (ix8w (i := 4) (by omega)) rfl rfl) <|
    oc (k_ld 0 ((14 + 4)) (.int .u64 ((H 4) : Nat)) (c := dgc H p fl ln) (ld_dgW (H := H) (p := p) (fl := fl) (ln := ln) (t0 := 96) (i := 4) (by decide)) rfl rfl) <|
    oc (k_mp 0 (pt 0) (.inl rfl) rfl) <|
    oc (k_nc 0 0 rfl rfl) <|
    oc (k_fa 0 0 14 rfl rfl) <|
    oc (k_ia 0 14 ((14 + 5)) (.int .i64 (5 : Nat)) (ix8w (i := 5) (by omega)) rfl rfl) <|
    oc (k_ld 0 ((14 + 5)) (.int .u64 ((H 5) : Nat)) (c := dgc H p fl ln) (ld_dgW (H := H) (p := p) (fl := fl) (ln := ln) (t0 := 96) (i := 5) (by decide)) rfl rfl) <|
    oc (k_mp 0 (pt 0) (.inl rfl) rfl) <|
    oc (k_nc 0 0 rfl rfl) <|
    oc (k_fa 0 0 14 rfl rfl) <|
    oc (k_ia 0 14 ((14 + 6)) (.int .i64 (6 : Nat)) (ix8w (i := 6) (by omega)) rfl rfl) <|
    oc (k_ld 0 ((14 + 6)) (.int .u64 ((H 6) : Nat)) (c := dgc H p fl ln) (ld_dgW (H := H) (p := p) (fl := fl) (ln := ln) (t0 := 96) (i := 6) (by decide)) rfl rfl) <|
    oc (k_mp 0 (pt 0) (.inl rfl) rfl) <|
    oc (k_nc 0 0 rfl rfl) <|
    oc (k_fa 0 0 14 rfl rfl) <|
    oc (k_ia 0 14 ((14 + 7)) (.int .i64 (7 : Nat)) (ix8w (i := 7) (by omega)) rfl rfl) <|
    oc (k_ld 0 ((14 + 7)) (.int .u64 ((H 7) : Nat)) (c := dgc H p fl ln) (ld_dgW (H := H) (p := p) (fl := fl) (ln := ln) (t0 := 96) (i := 7) (by decide)) rfl rfl) <|
    oz (k_mv (.inr rfl) rfl) <|
    oz (k_mv (.inr rfl) rfl) <|
    oz (k_mv (.inr rfl) rfl) <|
    oz (k_mv (.inr rfl) rfl) <|
    ok_nil
  clear h; intro β a w h
  refine sym_then ?_
  refine sym_seq ?_
  refine St.rg h [(63, .inr (0, pt 0)), (64, .inl (.agg (au 80 R))), (11, .inr (2, pt 0))] [(au 80 (fun _ => 0), 103)] [(2, au 80 R)] [nn, eR 0, eN 2, eS 2] ?_ ?_
  · exact oc (k_mp 0 (pt 0) (.inl rfl) rfl) <|
    oc (k_cb 103 (fun q => #[.pointer (some ⟨q, 0, none⟩)]) (.agg (au 80 R)) 0 63 (fun w q _ hq => cR w q hq) rfl rfl (by simp) (fm := pt 0) (t0 := 96) (c := dgc H p fl ln)) <|
    oc (k_al 2 al80 rfl rfl) <|
    oc (k_st 2 0 (.agg (au 80 R)) (c := au 80 (fun _ => 0)) (n := au 80 R) (st80 (F := R) (c := au 80 (fun _ => 0)) 103 (au_size _ _)) rfl rfl) <|
    ok_nil
  clear h; intro β a w h
  refine sym_then ?_
  refine sym_seq ?_
  refine sym_seq ?_
  refine St.r0 h [(65, .inr (1, pt 1)), (66, .inl (.int .i64 (80 : Nat))), (67, .inl (.int .i64 (0 : Nat)))] [nn, eR 1] ?_ ?_
  · exact oc (k_fa 1 0 1 rfl rfl) <|
    oc (k_ld 1 1 (.int .i64 (80 : Nat)) (c := pl14) (ldpI (i := 1) (v := 80) 92 (by decide) rfl) rfl rfl) <|
    oz (k_mv (.inl rfl) rfl) <|
    ok_nil
  clear h; intro β a w h
  refine sym_then ?_
  refine blk_in ?_
  replace h := St.ss h 3 (.int .u64 ((vS H R 0 0) : Nat)) (v := .int .u64 ((H 0) : Nat)) (vi (vS_z H R 0))
  replace h := St.ss h 4 (.int .u64 ((vS H R 0 1) : Nat)) (v := .int .u64 ((H 1) : Nat)) (vi (vS_z H R 1))
  replace h := St.ss h 5 (.int .u64 ((vS H R 0 2) : Nat)) (v := .int .u64 ((H 2) : Nat)) (vi (vS_z H R 2))
  replace h := St.ss h 6 (.int .u64 ((vS H R 0 3) : Nat)) (v := .int .u64 ((H 3) : Nat)) (vi (vS_z H R 3))
  replace h := St.ss h 7 (.int .u64 ((vS H R 0 4) : Nat)) (v := .int .u64 ((H 4) : Nat)) (vi (vS_z H R 4))
  replace h := St.ss h 8 (.int .u64 ((vS H R 0 5) : Nat)) (v := .int .u64 ((H 5) : Nat)) (vi (vS_z H R 5))
  replace h := St.ss h 9 (.int .u64 ((vS H R 0 6) : Nat)) (v := .int .u64 ((H 6) : Nat)) (vi (vS_z H R 6))
  replace h := St.ss h 10 (.int .u64 ((vS H R 0 7) : Nat)) (v := .int .u64 ((H 7) : Nat)) (vi (vS_z H R 7))
  obtain ⟨x, h⟩ := St.jn (n := 153) h [0, 2, 3, 4, 5, 6, 7, 8, 9, 10, 11, 66, 67] [.inr (0, pt 0), .inr (1, pt 0), .inl (.int .u64 ((vS H R 0 0) : Nat)), .inl (.int .u64 ((vS H R 0 1) : Nat)), .inl (.int .u64 ((vS H R 0 2) : Nat)), .inl (.int .u64 ((vS H R 0 3) : Nat)), .inl (.int .u64 ((vS H R 0 4) : Nat)), .inl (.int .u64 ((vS H R 0 5) : Nat)), .inl (.int .u64 ((vS H R 0 6) : Nat)), .inl (.int .u64 ((vS H R 0 7) : Nat)), .inr (2, pt 0), .inl (.int .i64 (80 : Nat)), .inl (.int .i64 (0 : Nat))] [(dgc H p fl ln, 96), (pl14, 92), (au 80 R, 103)] (by kernel_rfl) (by kernel_rfl) (by kernel_rfl)
  refine loop_up n (fun k a w => ∃ (x : Nat → SV) (β : Nat → Nat), St (wdx W0 q) (ov (jk 153 x) ([0, 2, 3, 4, 5, 6, 7, 8, 9, 10, 11, 66, 67].zip [.inr (0, pt 0), .inr (1, pt 0), .inl (.int .u64 ((vS H R k 0) : Nat)), .inl (.int .u64 ((vS H R k 1) : Nat)), .inl (.int .u64 ((vS H R k 2) : Nat)), .inl (.int .u64 ((vS H R k 3) : Nat)), .inl (.int .u64 ((vS H R k 4) : Nat)), .inl (.int .u64 ((vS H R k 5) : Nat)), .inl (.int .u64 ((vS H R k 6) : Nat)), .inl (.int .u64 ((vS H R k 7) : Nat)), .inr (2, pt 0), .inl (.int .i64 (80 : Nat)), .inl (.int .i64 (k : Nat))])) [(dgc H p fl ln, 96), (pl14, 92), (au 80 R, 103)] β a w) ⟨x, _, h⟩ ?_
  clear h; rintro k a w hkk ⟨x, β, h⟩
  rcases Nat.lt_or_ge k n with hltk | hgek
  · refine sym_seq ?_
    refine St.r0 h [(68, .inl (.bool true))] [] ?_ ?_
    · exact oz (k_bi (.int .i64 (k : Nat)) (.int .i64 (80 : Nat)) (.bool true) (lt_i (m := ((k : Nat) : Int)) (n := ((80 : Nat) : Int)) (decide_eq_true (by omega))) rfl rfl) <|
      ok_nil
    clear h; intro β a w h
    refine sym_then ?_
    refine sym_seq ?_
    refine s_ct h ?_
    refine wp_skip ?_
    refine sym_then ?_
    refine sym_seq ?_
    refine blk_in ?_
    refine sym_seq ?_
    refine St.r0 h [(69, .inl (.int .i64 (k : Nat))), (12, .inl (.int .i64 (k : Nat)))] [] ?_ ?_
    · exact oz (k_mv (.inl rfl) rfl) <|
      oz (k_mv (.inr rfl) rfl) <|
      ok_nil
    clear h; intro β a w h
    refine sym_then ?_
    refine sym_seq ?_
    refine St.r0 h [(70, .inl (.int .u64 ((vS H R k 4) : Nat))), (71, .inl (.int .u64 ((vS H R k 5) : Nat))), (72, .inl (.int .u64 (((vS H R k 4) &&& (vS H R k 5)) : Nat))), (73, .inl (.int .u64 ((vS H R k 4) : Nat))), (74, .inl (.int .u64 ((18446744073709551615 ^^^ (vS H R k 4)) : Nat))), (75, .inl (.int .u64 ((vS H R k 6) : Nat))), (76, .inl (.int .u64 (((18446744073709551615 ^^^ (vS H R k 4)) &&& (vS H R k 6)) : Nat))), (77, .inl (.int .u64 ((((vS H R k 4) &&& (vS H R k 5)) ||| ((18446744073709551615 ^^^ (vS H R k 4)) &&& (vS H R k 6))) : Nat))), (13, .inl (.int .u64 ((((vS H R k 4) &&& (vS H R k 5)) ||| ((18446744073709551615 ^^^ (vS H R k 4)) &&& (vS H R k 6))) : Nat)))] [] ?_ ?_
    · exact oz (k_mv (.inl rfl) rfl) <|
      oz (k_mv (.inl rfl) rfl) <|
      oz (k_bi (.int .u64 ((vS H R k 4) : Nat)) (.int .u64 ((vS H R k 5) : Nat)) (.int .u64 (((vS H R k 4) &&& (vS H R k 5)) : Nat)) (and_w (m := (vS H R k 4)) (n := (vS H R k 5)) (vS_lt hH _ _) (vS_lt hH _ _)) rfl rfl) <|
      oz (k_mv (.inl rfl) rfl) <|
      oz (ok_un (x1 := .int .u64 ((vS H R k 4) : Nat)) (v := .int .u64 ((18446744073709551615 ^^^ (vS H R k 4)) : Nat)) (no_w (m := (vS H R k 4)) (vS_lt hH _ _)) rfl (by kernel_rfl) rfl (by kernel_rfl) (by kernel_rfl) (by kernel_rfl)) <|
      oz (k_mv (.inl rfl) rfl) <|
      oz (k_bi (.int .u64 ((18446744073709551615 ^^^ (vS H R k 4)) : Nat)) (.int .u64 ((vS H R k 6) : Nat)) (.int .u64 (((18446744073709551615 ^^^ (vS H R k 4)) &&& (vS H R k 6)) : Nat)) (and_w (m := (18446744073709551615 ^^^ (vS H R k 4))) (n := (vS H R k 6)) (xor_lt max_B (vS_lt hH _ _)) (vS_lt hH _ _)) rfl rfl) <|
      oz (k_bi (.int .u64 (((vS H R k 4) &&& (vS H R k 5)) : Nat)) (.int .u64 (((18446744073709551615 ^^^ (vS H R k 4)) &&& (vS H R k 6)) : Nat)) (.int .u64 ((((vS H R k 4) &&& (vS H R k 5)) ||| ((18446744073709551615 ^^^ (vS H R k 4)) &&& (vS H R k 6))) : Nat)) (or_w (m := ((vS H R k 4) &&& (vS H R k 5))) (n := ((18446744073709551615 ^^^ (vS H R k 4)) &&& (vS H R k 6))) (and_lt (vS_lt hH _ _)) (and_lt (vS_lt hH _ _))) rfl rfl) <|
      oz (k_mv (.inr rfl) rfl) <|
      ok_nil
    clear h; intro β a w h
    refine sym_then ?_
    refine sym_seq ?_
    refine St.r0 h [(78, .inl (.int .u64 ((vS H R k 0) : Nat))), (79, .inl (.int .u64 ((vS H R k 1) : Nat))), (80, .inl (.int .u64 (((vS H R k 0) &&& (vS H R k 1)) : Nat))), (81, .inl (.int .u64 ((vS H R k 0) : Nat))), (82, .inl (.int .u64 ((vS H R k 2) : Nat))), (83, .inl (.int .u64 (((vS H R k 0) &&& (vS H R k 2)) : Nat))), (84, .inl (.int .u64 ((((vS H R k 0) &&& (vS H R k 1)) ||| ((vS H R k 0) &&& (vS H R k 2))) : Nat))), (85, .inl (.int .u64 ((vS H R k 1) : Nat))), (86, .inl (.int .u64 ((vS H R k 2) : Nat))), (87, .inl (.int .u64 (((vS H R k 1) &&& (vS H R k 2)) : Nat))), (88, .inl (.int .u64 (((((vS H R k 0) &&& (vS H R k 1)) ||| ((vS H R k 0) &&& (vS H R k 2))) ||| ((vS H R k 1) &&& (vS H R k 2))) : Nat))), (14, .inl (.int .u64 (((((vS H R k 0) &&& (vS H R k 1)) ||| ((vS H R k 0) &&& (vS H R k 2))) ||| ((vS H R k 1) &&& (vS H R k 2))) : Nat)))] [] ?_ ?_
    · exact oz (k_mv (.inl rfl) rfl) <|
      oz (k_mv (.inl rfl) rfl) <|
      oz (k_bi (.int .u64 ((vS H R k 0) : Nat)) (.int .u64 ((vS H R k 1) : Nat)) (.int .u64 (((vS H R k 0) &&& (vS H R k 1)) : Nat)) (and_w (m := (vS H R k 0)) (n := (vS H R k 1)) (vS_lt hH _ _) (vS_lt hH _ _)) rfl rfl) <|
      oz (k_mv (.inl rfl) rfl) <|
      oz (k_mv (.inl rfl) rfl) <|
      oz (k_bi (.int .u64 ((vS H R k 0) : Nat)) (.int .u64 ((vS H R k 2) : Nat)) (.int .u64 (((vS H R k 0) &&& (vS H R k 2)) : Nat)) (and_w (m := (vS H R k 0)) (n := (vS H R k 2)) (vS_lt hH _ _) (vS_lt hH _ _)) rfl rfl) <|
      oz (k_bi (.int .u64 (((vS H R k 0) &&& (vS H R k 1)) : Nat)) (.int .u64 (((vS H R k 0) &&& (vS H R k 2)) : Nat)) (.int .u64 ((((vS H R k 0) &&& (vS H R k 1)) ||| ((vS H R k 0) &&& (vS H R k 2))) : Nat)) (or_w (m := ((vS H R k 0) &&& (vS H R k 1))) (n := ((vS H R k 0) &&& (vS H R k 2))) (and_lt (vS_lt hH _ _)) (and_lt (vS_lt hH _ _))) rfl rfl) <|
      oz (k_mv (.inl rfl) rfl) <|
      oz (k_mv (.inl rfl) rfl) <|
      oz (k_bi (.int .u64 ((vS H R k 1) : Nat)) (.int .u64 ((vS H R k 2) : Nat)) (.int .u64 (((vS H R k 1) &&& (vS H R k 2)) : Nat)) (and_w (m := (vS H R k 1)) (n := (vS H R k 2)) (vS_lt hH _ _) (vS_lt hH _ _)) rfl rfl) <|
      oz (k_bi (.int .u64 ((((vS H R k 0) &&& (vS H R k 1)) ||| ((vS H R k 0) &&& (vS H R k 2))) : Nat)) (.int .u64 (((vS H R k 1) &&& (vS H R k 2)) : Nat)) (.int .u64 (((((vS H R k 0) &&& (vS H R k 1)) ||| ((vS H R k 0) &&& (vS H R k 2))) ||| ((vS H R k 1) &&& (vS H R k 2))) : Nat)) (or_w (m := (((vS H R k 0) &&& (vS H R k 1)) ||| ((vS H R k 0) &&& (vS H R k 2)))) (n := ((vS H R k 1) &&& (vS H R k 2))) (or_lt (and_lt (vS_lt hH _ _)) (and_lt (vS_lt hH _ _))) (and_lt (vS_lt hH _ _))) rfl rfl) <|
      oz (k_mv (.inr rfl) rfl) <|
      ok_nil
    clear h; intro β a w h
    refine sym_then ?_
    refine sym_seq ?_
    refine St.r0 h [(89, .inl (.int .u64 ((vS H R k 7) : Nat))), (90, .inr (0, pt 0)), (91, .inl (.int .u64 ((vS H R k 4) : Nat))), (92, .inr (1, pt 11)), (93, .inl (.agg (i3 14 18 41))), (94, .inl (.int .u64 ((hiW (vS H R k 4) 14 18 41) : Nat))), (95, .inl (.int .u64 ((((vS H R k 7) + (hiW (vS H R k 4) 14 18 41)) % B64) : Nat))), (96, .inl (.int .u64 ((((vS H R k 4) &&& (vS H R k 5)) ||| ((18446744073709551615 ^^^ (vS H R k 4)) &&& (vS H R k 6))) : Nat))), (97, .inl (.int .u64 (((((((vS H R k 7) + (hiW (vS H R k 4) 14 18 41)) % B64) + (((vS H R k 4) &&& (vS H R k 5)) ||| ((18446744073709551615 ^^^ (vS H R k 4)) &&& (vS H R k 6)))) % B64) : Nat) : Int))), (98, .inr (0, pt 0)), (99, .inl (.int .i64 (k : Nat))), (100, .inl (.pointer (some ⟨1, k, none⟩))), (101, .inl (.int .u64 ((cu k) : Nat))), (102, .inl (.int .u64 (((cu k) / 2 ^ 0) : Nat))), (103, .inl (.int .u64 (((((((((vS H R k 7) + (hiW (vS H R k 4) 14 18 41)) % B64) + (((vS H R k 4) &&& (vS H R k 5)) ||| ((18446744073709551615 ^^^ (vS H R k 4)) &&& (vS H R k 6)))) % B64) + ((cu k) / 2 ^ 0)) % B64) : Nat) : Int))), (104, .inl (.int .i64 (k : Nat))), (105, .inr (2, pt k)), (106, .inl (.int .u64 ((R k) : Nat))), (107, .inl (.int .u64 (((((((((((vS H R k 7) + (hiW (vS H R k 4) 14 18 41)) % B64) + (((vS H R k 4) &&& (vS H R k 5)) ||| ((18446744073709551615 ^^^ (vS H R k 4)) &&& (vS H R k 6)))) % B64) + ((cu k) / 2 ^ 0)) % B64) + (R k)) % B64) : Nat) : Int))), (15, .inl (.int .u64 (((((((((((vS H R k 7) + (hiW (vS H R k 4) 14 18 41)) % B64) + (((vS H R k 4) &&& (vS H R k 5)) ||| ((18446744073709551615 ^^^ (vS H R k 4)) &&& (vS H R k 6)))) % B64) + ((cu k) / 2 ^ 0)) % B64) + (R k)) % B64) : Nat) : Int)))] [nn, nn, nn, nn, eR 1, eR 0, nn, nn, nn, nn, nn, nn, nn, eR 0, nn, nn, nn, eR 2] ?_ ?_
    · exact oc (k_mv (.inl rfl) rfl) <|
      oc (k_mp 0 (pt 0) (.inl rfl) rfl) <|
      oc (k_mv (.inl rfl) rfl) <|
      oc (k_fa 1 0 11 rfl rfl) <|
      oc (k_ld 1 11 (.agg (i3 14 18 41)) (c := pl14) (ldp3 (i := 11) (a := 14) (b := 18) (c := 41) 92 (by decide) rfl rfl rfl) rfl rfl) <|
      oc (k_cb 104 (fun q => #[.pointer (some ⟨q, 0, none⟩), .int .u64 ((vS H R k 4) : Nat), .agg (i3 14 18 41)]) (.int .u64 ((hiW (vS H R k 4) 14 18 41) : Nat)) 0 90 (fun w q _ hq => high_d (vS_lt hH _ _) (by decide) (by decide) (by decide) hq) rfl rfl (by simp) (fm := pt 0) (t0 := 96) (c := dgc H p fl ln)) <|
      oc (k_bi (.int .u64 ((vS H R k 7) : Nat)) (.int .u64 ((hiW (vS H R k 4) 14 18 41) : Nat)) (.int .u64 ((((vS H R k 7) + (hiW (vS H R k 4) 14 18 41)) % B64) : Nat)) (ad_w (m := (vS H R k 7)) (n := (hiW (vS H R k 4) 14 18 41))) rfl rfl) <|
      oc (k_mv (.inl rfl) rfl) <|
      oc (k_bi (.int .u64 ((((vS H R k 7) + (hiW (vS H R k 4) 14 18 41)) % B64) : Nat)) (.int .u64 ((((vS H R k 4) &&& (vS H R k 5)) ||| ((18446744073709551615 ^^^ (vS H R k 4)) &&& (vS H R k 6))) : Nat)) (.int .u64 (((((((vS H R k 7) + (hiW (vS H R k 4) 14 18 41)) % B64) + (((vS H R k 4) &&& (vS H R k 5)) ||| ((18446744073709551615 ^^^ (vS H R k 4)) &&& (vS H R k 6)))) % B64) : Nat) : Int)) (ad_w (m := (((vS H R k 7) + (hiW (vS H R k 4) 14 18 41)) % B64)) (n := (((vS H R k 4) &&& (vS H R k 5)) ||| ((18446744073709551615 ^^^ (vS H R k 4)) &&& (vS H R k 6))))) rfl rfl) <|
      oc (k_mp 0 (pt 0) (.inl rfl) rfl) <|
      oc (k_mv (.inl rfl) rfl) <|
      oc (k_is (.pointer (some ⟨1, 0, none⟩)) (.int .i64 (k : Nat)) (.pointer (some ⟨1, k, none⟩)) (fun w => ix80 (i := k) (by omega) w 1) rfl rfl) <|
      oc (k_lf (.pointer (some ⟨1, k, none⟩)) (.int .u64 ((cu k) : Nat)) (fun w hw => gl_cu hg hq (by omega) w hw) rfl rfl) <|
      oc (k_cb 91 (fun q => #[.pointer (some ⟨q, 0, none⟩), .int .u64 ((cu k) : Nat)]) (.int .u64 (((cu k) / 2 ^ 0) : Nat)) 0 98 (fun w q _ hq => lead_d hq) rfl rfl (by simp) (fm := pt 0) (t0 := 96) (c := dgc H p fl ln)) <|
      oc (k_bi (.int .u64 (((((((vS H R k 7) + (hiW (vS H R k 4) 14 18 41)) % B64) + (((vS H R k 4) &&& (vS H R k 5)) ||| ((18446744073709551615 ^^^ (vS H R k 4)) &&& (vS H R k 6)))) % B64) : Nat) : Int)) (.int .u64 (((cu k) / 2 ^ 0) : Nat)) (.int .u64 (((((((((vS H R k 7) + (hiW (vS H R k 4) 14 18 41)) % B64) + (((vS H R k 4) &&& (vS H R k 5)) ||| ((18446744073709551615 ^^^ (vS H R k 4)) &&& (vS H R k 6)))) % B64) + ((cu k) / 2 ^ 0)) % B64) : Nat) : Int)) (ad_w (m := (((((vS H R k 7) + (hiW (vS H R k 4) 14 18 41)) % B64) + (((vS H R k 4) &&& (vS H R k 5)) ||| ((18446744073709551615 ^^^ (vS H R k 4)) &&& (vS H R k 6)))) % B64)) (n := ((cu k) / 2 ^ 0))) rfl rfl) <|
      oc (k_mv (.inl rfl) rfl) <|
      oc (k_ia 2 0 k (.int .i64 (k : Nat)) (ix80 (i := k) (by omega)) rfl rfl) <|
      oc (k_ld 2 k (.int .u64 ((R k) : Nat)) (c := au 80 R) (ld_au (n := 80) (F := R) (i := k) (t0 := 103) (by omega)) rfl rfl) <|
      oz (k_bi (.int .u64 (((((((((vS H R k 7) + (hiW (vS H R k 4) 14 18 41)) % B64) + (((vS H R k 4) &&& (vS H R k 5)) ||| ((18446744073709551615 ^^^ (vS H R k 4)) &&& (vS H R k 6)))) % B64) + ((cu k) / 2 ^ 0)) % B64) : Nat) : Int)) (.int .u64 ((R k) : Nat)) (.int .u64 (((((((((((vS H R k 7) + (hiW (vS H R k 4) 14 18 41)) % B64) + (((vS H R k 4) &&& (vS H R k 5)) ||| ((18446744073709551615 ^^^ (vS H R k 4)) &&& (vS H R k 6)))) % B64) + ((cu k) / 2 ^ 0)) % B64) + (R k)) % B64) : Nat) : Int)) (ad_w (m := (((((((vS H R k 7) + (hiW (vS H R k 4) 14 18 41)) % B64) + (((vS H R k 4) &&& (vS H R k 5)) ||| ((18446744073709551615 ^^^ (vS H R k 4)) &&& (vS H R k 6)))) % B64) + ((cu k) / 2 ^ 0)) % B64)) (n := (R k))) rfl rfl) <|
      oz (k_mv (.inr rfl) rfl) <|
      ok_nil
    clear h; intro β a w h
    refine sym_then ?_
    refine sym_seq ?_
    refine St.r0 h [(108, .inr (0, pt 0)), (109, .inl (.int .u64 ((vS H R k 0) : Nat))), (110, .inr (1, pt 8)), (111, .inl (.agg (i3 28 34 39))), (112, .inl (.int .u64 ((hiW (vS H R k 0) 28 34 39) : Nat))), (113, .inl (.int .u64 (((((vS H R k 0) &&& (vS H R k 1)) ||| ((vS H R k 0) &&& (vS H R k 2))) ||| ((vS H R k 1) &&& (vS H R k 2))) : Nat))), (114, .inl (.int .u64 (((((hiW (vS H R k 0) 28 34 39) + ((((vS H R k 0) &&& (vS H R k 1)) ||| ((vS H R k 0) &&& (vS H R k 2))) ||| ((vS H R k 1) &&& (vS H R k 2)))) % B64) : Nat) : Int))), (16, .inl (.int .u64 (((((hiW (vS H R k 0) 28 34 39) + ((((vS H R k 0) &&& (vS H R k 1)) ||| ((vS H R k 0) &&& (vS H R k 2))) ||| ((vS H R k 1) &&& (vS H R k 2)))) % B64) : Nat) : Int)))] [nn, nn, nn, eR 1, eR 0] ?_ ?_
    · exact oc (k_mp 0 (pt 0) (.inl rfl) rfl) <|
      oc (k_mv (.inl rfl) rfl) <|
      oc (k_fa 1 0 8 rfl rfl) <|
      oc (k_ld 1 8 (.agg (i3 28 34 39)) (c := pl14) (ldp3 (i := 8) (a := 28) (b := 34) (c := 39) 92 (by decide) rfl rfl rfl) rfl rfl) <|
      oc (k_cb 104 (fun q => #[.pointer (some ⟨q, 0, none⟩), .int .u64 ((vS H R k 0) : Nat), .agg (i3 28 34 39)]) (.int .u64 ((hiW (vS H R k 0) 28 34 39) : Nat)) 0 108 (fun w q _ hq => high_d (vS_lt hH _ _) (by decide) (by decide) (by decide) hq) rfl rfl (by simp) (fm := pt 0) (t0 := 96) (c := dgc H p fl ln)) <|
      oz (k_mv (.inl rfl) rfl) <|
      oz (k_bi (.int .u64 ((hiW (vS H R k 0) 28 34 39) : Nat)) (.int .u64 (((((vS H R k 0) &&& (vS H R k 1)) ||| ((vS H R k 0) &&& (vS H R k 2))) ||| ((vS H R k 1) &&& (vS H R k 2))) : Nat)) (.int .u64 (((((hiW (vS H R k 0) 28 34 39) + ((((vS H R k 0) &&& (vS H R k 1)) ||| ((vS H R k 0) &&& (vS H R k 2))) ||| ((vS H R k 1) &&& (vS H R k 2)))) % B64) : Nat) : Int)) (ad_w (m := (hiW (vS H R k 0) 28 34 39)) (n := ((((vS H R k 0) &&& (vS H R k 1)) ||| ((vS H R k 0) &&& (vS H R k 2))) ||| ((vS H R k 1) &&& (vS H R k 2))))) rfl rfl) <|
      oz (k_mv (.inr rfl) rfl) <|
      ok_nil
    clear h; intro β a w h
    refine sym_then ?_
    refine St.r0 h [(115, .inl (.int .u64 (((((((((((vS H R k 7) + (hiW (vS H R k 4) 14 18 41)) % B64) + (((vS H R k 4) &&& (vS H R k 5)) ||| ((18446744073709551615 ^^^ (vS H R k 4)) &&& (vS H R k 6)))) % B64) + ((cu k) / 2 ^ 0)) % B64) + (R k)) % B64) : Nat) : Int))), (116, .inl (.int .u64 (((((hiW (vS H R k 0) 28 34 39) + ((((vS H R k 0) &&& (vS H R k 1)) ||| ((vS H R k 0) &&& (vS H R k 2))) ||| ((vS H R k 1) &&& (vS H R k 2)))) % B64) : Nat) : Int))), (117, .inl (.int .u64 (((((((((((((vS H R k 7) + (hiW (vS H R k 4) 14 18 41)) % B64) + (((vS H R k 4) &&& (vS H R k 5)) ||| ((18446744073709551615 ^^^ (vS H R k 4)) &&& (vS H R k 6)))) % B64) + ((cu k) / 2 ^ 0)) % B64) + (R k)) % B64) + (((hiW (vS H R k 0) 28 34 39) + ((((vS H R k 0) &&& (vS H R k 1)) ||| ((vS H R k 0) &&& (vS H R k 2))) ||| ((vS H R k 1) &&& (vS H R k 2)))) % B64)) % B64) : Nat) : Int))), (118, .inl (.int .u64 ((vS H R k 0) : Nat))), (119, .inl (.int .u64 ((vS H R k 1) : Nat))), (120, .inl (.int .u64 ((vS H R k 2) : Nat))), (121, .inl (.int .u64 ((vS H R k 3) : Nat))), (122, .inl (.int .u64 (((((((((((vS H R k 7) + (hiW (vS H R k 4) 14 18 41)) % B64) + (((vS H R k 4) &&& (vS H R k 5)) ||| ((18446744073709551615 ^^^ (vS H R k 4)) &&& (vS H R k 6)))) % B64) + ((cu k) / 2 ^ 0)) % B64) + (R k)) % B64) : Nat) : Int))), (123, .inl (.int .u64 (((((vS H R k 3) + (((((((((vS H R k 7) + (hiW (vS H R k 4) 14 18 41)) % B64) + (((vS H R k 4) &&& (vS H R k 5)) ||| ((18446744073709551615 ^^^ (vS H R k 4)) &&& (vS H R k 6)))) % B64) + ((cu k) / 2 ^ 0)) % B64) + (R k)) % B64)) % B64) : Nat) : Int))), (124, .inl (.int .u64 ((vS H R k 4) : Nat))), (125, .inl (.int .u64 ((vS H R k 5) : Nat))), (126, .inl (.int .u64 ((vS H R k 6) : Nat))), (3, .inl (.int .u64 (((((((((((((vS H R k 7) + (hiW (vS H R k 4) 14 18 41)) % B64) + (((vS H R k 4) &&& (vS H R k 5)) ||| ((18446744073709551615 ^^^ (vS H R k 4)) &&& (vS H R k 6)))) % B64) + ((cu k) / 2 ^ 0)) % B64) + (R k)) % B64) + (((hiW (vS H R k 0) 28 34 39) + ((((vS H R k 0) &&& (vS H R k 1)) ||| ((vS H R k 0) &&& (vS H R k 2))) ||| ((vS H R k 1) &&& (vS H R k 2)))) % B64)) % B64) : Nat) : Int))), (4, .inl (.int .u64 ((vS H R k 0) : Nat))), (5, .inl (.int .u64 ((vS H R k 1) : Nat))), (6, .inl (.int .u64 ((vS H R k 2) : Nat))), (7, .inl (.int .u64 (((((vS H R k 3) + (((((((((vS H R k 7) + (hiW (vS H R k 4) 14 18 41)) % B64) + (((vS H R k 4) &&& (vS H R k 5)) ||| ((18446744073709551615 ^^^ (vS H R k 4)) &&& (vS H R k 6)))) % B64) + ((cu k) / 2 ^ 0)) % B64) + (R k)) % B64)) % B64) : Nat) : Int))), (8, .inl (.int .u64 ((vS H R k 4) : Nat))), (9, .inl (.int .u64 ((vS H R k 5) : Nat))), (10, .inl (.int .u64 ((vS H R k 6) : Nat)))] [nn, nn, nn, eO, eO, eO, eO, nn, nn, eO, eO, eO] ?_ ?_
    · exact oc (k_mv (.inl rfl) rfl) <|
      oc (k_mv (.inl rfl) rfl) <|
      oc (k_bi (.int .u64 (((((((((((vS H R k 7) + (hiW (vS H R k 4) 14 18 41)) % B64) + (((vS H R k 4) &&& (vS H R k 5)) ||| ((18446744073709551615 ^^^ (vS H R k 4)) &&& (vS H R k 6)))) % B64) + ((cu k) / 2 ^ 0)) % B64) + (R k)) % B64) : Nat) : Int)) (.int .u64 (((((hiW (vS H R k 0) 28 34 39) + ((((vS H R k 0) &&& (vS H R k 1)) ||| ((vS H R k 0) &&& (vS H R k 2))) ||| ((vS H R k 1) &&& (vS H R k 2)))) % B64) : Nat) : Int)) (.int .u64 (((((((((((((vS H R k 7) + (hiW (vS H R k 4) 14 18 41)) % B64) + (((vS H R k 4) &&& (vS H R k 5)) ||| ((18446744073709551615 ^^^ (vS H R k 4)) &&& (vS H R k 6)))) % B64) + ((cu k) / 2 ^ 0)) % B64) + (R k)) % B64) + (((hiW (vS H R k 0) 28 34 39) + ((((vS H R k 0) &&& (vS H R k 1)) ||| ((vS H R k 0) &&& (vS H R k 2))) ||| ((vS H R k 1) &&& (vS H R k 2)))) % B64)) % B64) : Nat) : Int)) (ad_w (m := (((((((((vS H R k 7) + (hiW (vS H R k 4) 14 18 41)) % B64) + (((vS H R k 4) &&& (vS H R k 5)) ||| ((18446744073709551615 ^^^ (vS H R k 4)) &&& (vS H R k 6)))) % B64) + ((cu k) / 2 ^ 0)) % B64) + (R k)) % B64)) (n := (((hiW (vS H R k 0) 28 34 39) + ((((vS H R k 0) &&& (vS H R k 1)) ||| ((vS H R k 0) &&& (vS H R k 2))) ||| ((vS H R k 1) &&& (vS H R k 2)))) % B64))) rfl rfl) <|
      oc (k_m0 rfl rfl) <|
      oc (k_m0 rfl rfl) <|
      oc (k_m0 rfl rfl) <|
      oc (k_m0 rfl rfl) <|
      oc (k_mv (.inl rfl) rfl) <|
      oc (k_bi (.int .u64 ((vS H R k 3) : Nat)) (.int .u64 (((((((((((vS H R k 7) + (hiW (vS H R k 4) 14 18 41)) % B64) + (((vS H R k 4) &&& (vS H R k 5)) ||| ((18446744073709551615 ^^^ (vS H R k 4)) &&& (vS H R k 6)))) % B64) + ((cu k) / 2 ^ 0)) % B64) + (R k)) % B64) : Nat) : Int)) (.int .u64 (((((vS H R k 3) + (((((((((vS H R k 7) + (hiW (vS H R k 4) 14 18 41)) % B64) + (((vS H R k 4) &&& (vS H R k 5)) ||| ((18446744073709551615 ^^^ (vS H R k 4)) &&& (vS H R k 6)))) % B64) + ((cu k) / 2 ^ 0)) % B64) + (R k)) % B64)) % B64) : Nat) : Int)) (ad_w (m := (vS H R k 3)) (n := (((((((((vS H R k 7) + (hiW (vS H R k 4) 14 18 41)) % B64) + (((vS H R k 4) &&& (vS H R k 5)) ||| ((18446744073709551615 ^^^ (vS H R k 4)) &&& (vS H R k 6)))) % B64) + ((cu k) / 2 ^ 0)) % B64) + (R k)) % B64))) rfl rfl) <|
      oc (k_m0 rfl rfl) <|
      oc (k_m0 rfl rfl) <|
      oc (k_m0 rfl rfl) <|
      oz (k_mv (.inr rfl) rfl) <|
      oz (k_mv (.inr rfl) rfl) <|
      oz (k_mv (.inr rfl) rfl) <|
      oz (k_mv (.inr rfl) rfl) <|
      oz (k_mv (.inr rfl) rfl) <|
      oz (k_mv (.inr rfl) rfl) <|
      oz (k_mv (.inr rfl) rfl) <|
      oz (k_mv (.inr rfl) rfl) <|
      ok_nil
    clear h; intro β a w h
    refine blk_norm ?_
    refine sym_then ?_
    refine St.r0 h [(127, .inl (.int .i64 ((k + 1) : Nat))), (67, .inl (.int .i64 ((k + 1) : Nat)))] [eO] ?_ ?_
    · exact oc (k_b0 (.int .i64 (k : Nat)) (.int .i64 (1 : Nat)) (.int .i64 ((k + 1) : Nat)) (ad_i (m := k) (n := 1) (by omega)) rfl rfl) <|
      oz (k_mv (.inl rfl) rfl) <|
      ok_nil
    clear h; intro β a w h
    replace h := St.ss h 3 (.int .u64 ((vS H R (k + 1) 0) : Nat)) (v := .int .u64 (((((((((((((vS H R k 7) + (hiW (vS H R k 4) 14 18 41)) % B64) + (((vS H R k 4) &&& (vS H R k 5)) ||| ((18446744073709551615 ^^^ (vS H R k 4)) &&& (vS H R k 6)))) % B64) + ((cu k) / 2 ^ 0)) % B64) + (R k)) % B64) + (((hiW (vS H R k 0) 28 34 39) + ((((vS H R k 0) &&& (vS H R k 1)) ||| ((vS H R k 0) &&& (vS H R k 2))) ||| ((vS H R k 1) &&& (vS H R k 2)))) % B64)) % B64) : Nat) : Int)) (vi (vS_s0 H R k))
    replace h := St.ss h 4 (.int .u64 ((vS H R (k + 1) 1) : Nat)) (v := .int .u64 ((vS H R k 0) : Nat)) (vi (vS_s1 H R k))
    replace h := St.ss h 5 (.int .u64 ((vS H R (k + 1) 2) : Nat)) (v := .int .u64 ((vS H R k 1) : Nat)) (vi (vS_s2 H R k))
    replace h := St.ss h 6 (.int .u64 ((vS H R (k + 1) 3) : Nat)) (v := .int .u64 ((vS H R k 2) : Nat)) (vi (vS_s3 H R k))
    replace h := St.ss h 7 (.int .u64 ((vS H R (k + 1) 4) : Nat)) (v := .int .u64 (((((vS H R k 3) + (((((((((vS H R k 7) + (hiW (vS H R k 4) 14 18 41)) % B64) + (((vS H R k 4) &&& (vS H R k 5)) ||| ((18446744073709551615 ^^^ (vS H R k 4)) &&& (vS H R k 6)))) % B64) + ((cu k) / 2 ^ 0)) % B64) + (R k)) % B64)) % B64) : Nat) : Int)) (vi (vS_s4 H R k))
    replace h := St.ss h 8 (.int .u64 ((vS H R (k + 1) 5) : Nat)) (v := .int .u64 ((vS H R k 4) : Nat)) (vi (vS_s5 H R k))
    replace h := St.ss h 9 (.int .u64 ((vS H R (k + 1) 6) : Nat)) (v := .int .u64 ((vS H R k 5) : Nat)) (vi (vS_s6 H R k))
    replace h := St.ss h 10 (.int .u64 ((vS H R (k + 1) 7) : Nat)) (v := .int .u64 ((vS H R k 6) : Nat)) (vi (vS_s7 H R k))
    obtain ⟨x, h⟩ := St.jn (n := 153) h [0, 2, 3, 4, 5, 6, 7, 8, 9, 10, 11, 66, 67] [.inr (0, pt 0), .inr (1, pt 0), .inl (.int .u64 ((vS H R (k + 1) 0) : Nat)), .inl (.int .u64 ((vS H R (k + 1) 1) : Nat)), .inl (.int .u64 ((vS H R (k + 1) 2) : Nat)), .inl (.int .u64 ((vS H R (k + 1) 3) : Nat)), .inl (.int .u64 ((vS H R (k + 1) 4) : Nat)), .inl (.int .u64 ((vS H R (k + 1) 5) : Nat)), .inl (.int .u64 ((vS H R (k + 1) 6) : Nat)), .inl (.int .u64 ((vS H R (k + 1) 7) : Nat)), .inr (2, pt 0), .inl (.int .i64 (80 : Nat)), .inl (.int .i64 ((k + 1) : Nat))] [(dgc H p fl ln, 96), (pl14, 92), (au 80 R, 103)] (by kernel_rfl) (by kernel_rfl) (by kernel_rfl)
    exact ⟨hltk, x, _, h⟩
  · obtain rfl : n = k := by omega
    refine sym_seq ?_
    refine St.r0 h [(68, .inl (.bool false))] [] ?_ ?_
    · exact oz (k_bi (.int .i64 (n : Nat)) (.int .i64 (80 : Nat)) (.bool false) (lt_i (m := ((n : Nat) : Int)) (n := ((80 : Nat) : Int)) (decide_eq_false (by omega))) rfl rfl) <|
      ok_nil
    clear h; intro β a w h
    refine sym_then ?_
    refine sym_seq ?_
    refine s_cf h ?_
    refine wp_exit ?_
    refine then_exit ?_
    refine then_exit ?_
    refine blk_exit ?_
    refine sym_then ?_
    refine sym_seq ?_
    refine St.r0 h [(128, .inl (.int .u64 ((vS H R n 0) : Nat))), (129, .inl (.int .u64 ((vS H R n 1) : Nat))), (130, .inl (.int .u64 ((vS H R n 2) : Nat))), (131, .inl (.int .u64 ((vS H R n 3) : Nat))), (132, .inl (.int .u64 ((vS H R n 4) : Nat))), (133, .inl (.int .u64 ((vS H R n 5) : Nat))), (134, .inl (.int .u64 ((vS H R n 6) : Nat))), (135, .inl (.int .u64 ((vS H R n 7) : Nat))), (136, .inl (.agg (au 8 (vS H R n)))), (137, .inl (.int .i64 (0 : Nat)))] [] ?_ ?_
    · exact oz (k_mv (.inl rfl) rfl) <|
      oz (k_mv (.inl rfl) rfl) <|
      oz (k_mv (.inl rfl) rfl) <|
      oz (k_mv (.inl rfl) rfl) <|
      oz (k_mv (.inl rfl) rfl) <|
      oz (k_mv (.inl rfl) rfl) <|
      oz (k_mv (.inl rfl) rfl) <|
      oz (k_mv (.inl rfl) rfl) <|
      oz (k_bu #[(0, .int .u64 ((vS H R n 0) : Nat)), (1, .int .u64 ((vS H R n 1) : Nat)), (2, .int .u64 ((vS H R n 2) : Nat)), (3, .int .u64 ((vS H R n 3) : Nat)), (4, .int .u64 ((vS H R n 4) : Nat)), (5, .int .u64 ((vS H R n 5) : Nat)), (6, .int .u64 ((vS H R n 6) : Nat)), (7, .int .u64 ((vS H R n 7) : Nat))] (.agg (au 8 (vS H R n))) (fun w => by kernel_rfl) rfl rfl) <|
      oz (k_mv (.inl rfl) rfl) <|
      ok_nil
    clear h; intro β a w h
    refine sym_then ?_
    refine blk_in ?_
    replace h := St.sm h 0 (dgc (hF H (vS H R n) 0) p fl ln) (c := dgc H p fl ln) (t := 96) rfl
    obtain ⟨x, h⟩ := St.jn (n := 153) h [0, 2, 3, 4, 5, 6, 7, 8, 9, 10, 11, 66, 67, 136, 137] [.inr (0, pt 0), .inr (1, pt 0), .inl (.int .u64 ((vS H R n 0) : Nat)), .inl (.int .u64 ((vS H R n 1) : Nat)), .inl (.int .u64 ((vS H R n 2) : Nat)), .inl (.int .u64 ((vS H R n 3) : Nat)), .inl (.int .u64 ((vS H R n 4) : Nat)), .inl (.int .u64 ((vS H R n 5) : Nat)), .inl (.int .u64 ((vS H R n 6) : Nat)), .inl (.int .u64 ((vS H R n 7) : Nat)), .inr (2, pt 0), .inl (.int .i64 (80 : Nat)), .inl (.int .i64 (n : Nat)), .inl (.agg (au 8 (vS H R n))), .inl (.int .i64 (0 : Nat))] [(dgc (hF H (vS H R n) 0) p fl ln, 96), (pl14, 92), (au 80 R, 103)] (by kernel_rfl) (by kernel_rfl) (by kernel_rfl)
    refine loop_up m8 (fun i a w => ∃ (x : Nat → SV) (β : Nat → Nat), St (wdx W0 q) (ov (jk 153 x) ([0, 2, 3, 4, 5, 6, 7, 8, 9, 10, 11, 66, 67, 136, 137].zip [.inr (0, pt 0), .inr (1, pt 0), .inl (.int .u64 ((vS H R n 0) : Nat)), .inl (.int .u64 ((vS H R n 1) : Nat)), .inl (.int .u64 ((vS H R n 2) : Nat)), .inl (.int .u64 ((vS H R n 3) : Nat)), .inl (.int .u64 ((vS H R n 4) : Nat)), .inl (.int .u64 ((vS H R n 5) : Nat)), .inl (.int .u64 ((vS H R n 6) : Nat)), .inl (.int .u64 ((vS H R n 7) : Nat)), .inr (2, pt 0), .inl (.int .i64 (80 : Nat)), .inl (.int .i64 (n : Nat)), .inl (.agg (au 8 (vS H R n))), .inl (.int .i64 (i : Nat))])) [(dgc (hF H (vS H R n) i) p fl ln, 96), (pl14, 92), (au 80 R, 103)] β a w) ⟨x, _, h⟩ ?_
    clear h; rintro i a w hki ⟨x, β, h⟩
    rcases Nat.lt_or_ge i m8 with hlti | hgei
    · refine sym_seq ?_
      refine St.r0 h [(138, .inl (.bool true))] [] ?_ ?_
      · exact oz (k_bi (.int .i64 (i : Nat)) (.int .i64 (8 : Nat)) (.bool true) (lt_i (m := ((i : Nat) : Int)) (n := ((8 : Nat) : Int)) (decide_eq_true (by omega))) rfl rfl) <|
        ok_nil
      clear h; intro β a w h
      refine sym_then ?_
      refine sym_seq ?_
      refine s_ct h ?_
      refine wp_skip ?_
      refine sym_then ?_
      refine sym_seq ?_
      refine blk_in ?_
      refine sym_seq ?_
      refine St.r0 h [(139, .inl (.int .i64 (i : Nat))), (140, .inl (.int .u64 ((vS H R n i) : Nat))), (17, .inl (.int .i64 (i : Nat))), (18, .inl (.int .u64 ((vS H R n i) : Nat)))] [] ?_ ?_
      · exact oz (k_mv (.inl rfl) rfl) <|
        oz (k_ix (.agg (au 8 (vS H R n))) (.int .i64 (i : Nat)) (.int .u64 ((vS H R n i) : Nat)) (in8 (F := (vS H R n)) (i := i) (by omega)) rfl rfl) <|
        oz (k_mv (.inr rfl) rfl) <|
        oz (k_mv (.inr rfl) rfl) <|
        ok_nil
      clear h; intro β a w h
      refine sym_then ?_
      refine St.rg h [(141, .inr (0, pt 0)), (142, .inl (.int .i64 (i : Nat))), (143, .inr (0, pt 0)), (144, .inr (0, pt 14)), (145, .inr (0, pt (14 + i))), (146, .inl (.int .u64 ((hF H (vS H R n) i i) : Nat))), (147, .inl (.int .u64 ((vS H R n i) : Nat))), (148, .inl (.int .u64 ((((hF H (vS H R n) i i) + (vS H R n i)) % B64) : Nat))), (149, .inr (0, pt 0)), (150, .inr (0, pt 14)), (151, .inr (0, pt (14 + i)))] [] [(0, dgc (updN (hF H (vS H R n) i) i (((hF H (vS H R n) i i) + (vS H R n i)) % B64)) p fl ln)] [nn, nn, nn, nn, nn, eR 0, nn, nn, nn, nn, nn, eS 0] ?_ ?_
      · exact oc (k_mp 0 (pt 0) (.inl rfl) rfl) <|
        oc (k_mv (.inl rfl) rfl) <|
        oc (k_nc 0 0 rfl rfl) <|
        oc (k_fa 0 0 14 rfl rfl) <|
        oc (k_ia 0 14 ((14 + i)) (.int .i64 (i : Nat)) (ix8w (i := i) (by omega)) rfl rfl) <|
        oc (k_ld 0 ((14 + i)) (.int .u64 ((hF H (vS H R n) i i) : Nat)) (c := dgc (hF H (vS H R n) i) p fl ln) (ld_dgW (H := (hF H (vS H R n) i)) (p := p) (fl := fl) (ln := ln) (t0 := 96) (i := i) (by omega)) rfl rfl) <|
        oc (k_mv (.inl rfl) rfl) <|
        oc (k_bi (.int .u64 ((hF H (vS H R n) i i) : Nat)) (.int .u64 ((vS H R n i) : Nat)) (.int .u64 ((((hF H (vS H R n) i i) + (vS H R n i)) % B64) : Nat)) (ad_w (m := (hF H (vS H R n) i i)) (n := (vS H R n i))) rfl rfl) <|
        oc (k_nc 0 0 rfl rfl) <|
        oc (k_fa 0 0 14 rfl rfl) <|
        oc (k_ia 0 14 ((14 + i)) (.int .i64 (i : Nat)) (ix8w (i := i) (by omega)) rfl rfl) <|
        oc (k_st 0 ((14 + i)) (.int .u64 ((((hF H (vS H R n) i i) + (vS H R n i)) % B64) : Nat)) (c := dgc (hF H (vS H R n) i) p fl ln) (n := dgc (updN (hF H (vS H R n) i) i (((hF H (vS H R n) i i) + (vS H R n i)) % B64)) p fl ln) (st_dgW (H := (hF H (vS H R n) i)) (p := p) (fl := fl) (ln := ln) (t0 := 96) (i := i) (v := (((hF H (vS H R n) i i) + (vS H R n i)) % B64)) (by omega)) rfl rfl) <|
        ok_nil
      clear h; intro β a w h
      refine blk_norm ?_
      refine sym_then ?_
      refine St.r0 h [(152, .inl (.int .i64 ((i + 1) : Nat))), (137, .inl (.int .i64 ((i + 1) : Nat)))] [eO] ?_ ?_
      · exact oc (k_b0 (.int .i64 (i : Nat)) (.int .i64 (1 : Nat)) (.int .i64 ((i + 1) : Nat)) (ad_i (m := i) (n := 1) (by omega)) rfl rfl) <|
        oz (k_mv (.inl rfl) rfl) <|
        ok_nil
      clear h; intro β a w h
      replace h := St.sm h 0 (dgc (hF H (vS H R n) (i + 1)) p fl ln) (c := dgc (updN (hF H (vS H R n) i) i (((hF H (vS H R n) i i) + (vS H R n i)) % B64)) p fl ln) (t := 96) (hF_s _ _ _ _ _ _)
      obtain ⟨x, h⟩ := St.jn (n := 153) h [0, 2, 3, 4, 5, 6, 7, 8, 9, 10, 11, 66, 67, 136, 137] [.inr (0, pt 0), .inr (1, pt 0), .inl (.int .u64 ((vS H R n 0) : Nat)), .inl (.int .u64 ((vS H R n 1) : Nat)), .inl (.int .u64 ((vS H R n 2) : Nat)), .inl (.int .u64 ((vS H R n 3) : Nat)), .inl (.int .u64 ((vS H R n 4) : Nat)), .inl (.int .u64 ((vS H R n 5) : Nat)), .inl (.int .u64 ((vS H R n 6) : Nat)), .inl (.int .u64 ((vS H R n 7) : Nat)), .inr (2, pt 0), .inl (.int .i64 (80 : Nat)), .inl (.int .i64 (n : Nat)), .inl (.agg (au 8 (vS H R n))), .inl (.int .i64 ((i + 1) : Nat))] [(dgc (hF H (vS H R n) (i + 1)) p fl ln, 96), (pl14, 92), (au 80 R, 103)] (by kernel_rfl) (by kernel_rfl) (by kernel_rfl)
      exact ⟨hlti, x, _, h⟩
    · obtain rfl : m8 = i := by omega
      refine sym_seq ?_
      refine St.r0 h [(138, .inl (.bool false))] [] ?_ ?_
      · exact oz (k_bi (.int .i64 (m8 : Nat)) (.int .i64 (8 : Nat)) (.bool false) (lt_i (m := ((m8 : Nat) : Int)) (n := ((8 : Nat) : Int)) (decide_eq_false (by omega))) rfl rfl) <|
        ok_nil
      clear h; intro β a w h
      refine sym_then ?_
      refine sym_seq ?_
      refine s_cf h ?_
      refine wp_exit ?_
      refine then_exit ?_
      refine then_exit ?_
      refine blk_exit ?_
      exact s_re h Tryz.results93 (fun hb => ⟨rfl, hb⟩)
theorem mix_d {H p : Nat → Nat} {fl ln q : Nat} {W0 : World} (hg : Gl W0) (hH : ∀ i, H i < B64) (hp : ∀ i, p i < 256) (hq : W0.heap[q]? = some (.cells (dgc H p fl ln) 96 (0, 0))) : Calls Tryz.prog 93 #[.pointer (some ⟨q, 0, none⟩)] W0 fun e w' => e = .returned (.tuple #[]) ∧ Wrt W0 w' q (dgc (mixH H p) p fl ln) 96 := mix_w rfl rfl (fun _ _ hq => row_d hp hq) hg hH hq
end Go.Proofs.YtacokkedomjgpaaGreatDoor.Lo

namespace Go.Proofs.YtacokkedomjgpaaGreatDoor.Lo
open Go.RowKit
theorem bxPl (w : World) : (Instr.box 92 (.agg pl14)).run Tryz.prog w = .ok (.pointer (some ⟨w.heap.size, 0, none⟩)) (w.alloc (.cells pl14 92)) := bx_agg w
theorem ldPl (t0 : TypeId) (w : World) (q : Nat) (h : w.heap[q]? = some (.cells pl14 t0 (0, 0))) : (Instr.loadAt 92 (.pointer (some ⟨q, 0, none⟩))).run Tryz.prog w = .ok (.agg pl14) w :=
  ld_row (c := pl14) Tryz.underlying92 rfl (by rw [pl14_size]; kernel_rfl) w q h
theorem dgc_size (H p : Nat → Nat) (fl ln : Nat) : (dgc H p fl ln).size = 152 := arr_size _ _
theorem dgc_one (H p : Nat → Nat) (fl ln : Nat) : (dgc H p fl ln).all (·.oneCell') = true := by
  rw [Array.all_eq_true_iff_forall_mem]
  intro v hv
  obtain ⟨i, rfl⟩ := Array.mem_ofFn.1 hv
  unfold dgv
  repeat' split
  all_goals rfl
def zdv (i : Nat) : Value := if i < 14 then .int .i64 0 else if i < 22 then .int .u64 0 else if i < 150 then .int .u8 0 else if i < 151 then .int .i64 0 else .int .u64 0
def zdc : Array Value := arr 152 zdv
theorem alD (w : World) : (Instr.alloc 96 true (.tuple #[])).run Tryz.prog w = .ok (.pointer (some ⟨w.heap.size, 0, none⟩)) (w.alloc (.cells zdc 96)) := by
  have e : (zeroValue 96).run Tryz.prog w = .ok (.agg zdc) w := by kernel_rfl
  simp [Instr.alloc, go_sem, e]
theorem stD {H p : Nat → Nat} {fl ln : Nat} {c : Array Value} (t0 : TypeId) (hc : c.size = 152) (w : World) (q : Nat) (h : w.heap[q]? = some (.cells c t0 (0, 0))) : (Instr.storeAt 96 (.pointer (some ⟨q, 0, none⟩)) (.agg (dgc H p fl ln))).run Tryz.prog w = .ok () (w.setRow q (dgc H p fl ln)) :=
  st_row (n := dgc H p fl ln) (by rw [dgc_size]; kernel_rfl) (by rw [hc, dgc_size]) (dgc_one _ _ _ _) w q h
theorem ldD {H p : Nat → Nat} {fl ln : Nat} (t0 : TypeId) (w : World) (q : Nat) (h : w.heap[q]? = some (.cells (dgc H p fl ln) t0 (0, 0))) : (Instr.loadAt 96 (.pointer (some ⟨q, 0, none⟩))).run Tryz.prog w = .ok (.agg (dgc H p fl ln)) w :=
  ld_row (c := dgc H p fl ln) Tryz.underlying96 rfl (by rw [dgc_size]; kernel_rfl) w q h
def bgF : Nat → Nat → Nat
  | 0 => fun _ => 0
  | k + 1 => updN (bgF k) k (sq k / 2 ^ 0)
theorem plan_d (W0 : World) : Calls Tryz.prog 58 #[] W0 fun e w' => e = .returned (.agg pl14) ∧ Below W0.heap.size W0 w' := by
  refine s_in Tryz.func58 Tryz.ntmps58 rfl [] ?_
  intro β a h
  refine sym_seq ?_
  refine St.rg h [(0, .inr (0, pt 0))] [(ai 14 (fun _ => 0), 92)] [] [eN 0] ?_ ?_
  · exact oc (k_al 0 alPl rfl rfl) <|
    ok_nil
  clear h; intro β a w h
  refine sym_then ?_
  refine sym_seq ?_
  refine St.rg h [(1, .inl (.agg (i3 19 61 6))), (2, .inl (.agg (i3 1 8 7))), (3, .inl (.agg (i3 28 34 39))), (4, .inl (.agg (i3 14 18 41))), (5, .inl (.agg pl14))] [] [(0, pl14)] [nn, nn, nn, nn, nn, eS 0] ?_ ?_
  · exact oc (k_bu #[(0, .int .i64 (19 : Nat)), (1, .int .i64 (61 : Nat)), (2, .int .i64 (6 : Nat))] (.agg (i3 19 61 6)) (fun w => by kernel_rfl) rfl rfl) <|
    oc (k_bu #[(0, .int .i64 (1 : Nat)), (1, .int .i64 (8 : Nat)), (2, .int .i64 (7 : Nat))] (.agg (i3 1 8 7)) (fun w => by kernel_rfl) rfl rfl) <|
    oc (k_bu #[(0, .int .i64 (28 : Nat)), (1, .int .i64 (34 : Nat)), (2, .int .i64 (39 : Nat))] (.agg (i3 28 34 39)) (fun w => by kernel_rfl) rfl rfl) <|
    oc (k_bu #[(0, .int .i64 (14 : Nat)), (1, .int .i64 (18 : Nat)), (2, .int .i64 (41 : Nat))] (.agg (i3 14 18 41)) (fun w => by kernel_rfl) rfl rfl) <|
    oc (k_bu #[(0, .int .i64 (64 : Nat)), (1, .int .i64 (80 : Nat)), (2, .agg (i3 19 61 6)), (3, .agg (i3 1 8 7)), (4, .agg (i3 28 34 39)), (5, .agg (i3 14 18 41))] (.agg pl14) (fun w => by kernel_rfl) rfl rfl) <|
    oc (k_st 0 0 (.agg pl14) (c := ai 14 (fun _ => 0)) (n := pl14) (stPl (c := ai 14 (fun _ => 0)) 92 (ai_size _ _)) rfl rfl) <|
    ok_nil
  clear h; intro β a w h
  refine sym_then ?_
  refine wp_ret ?_
  exact s_rc (b := 0) (t0 := 92) (c := pl14) h Tryz.results58 Tryz.underlying92 (fun hb => ⟨rfl, hb⟩) (by rw [pl14_size]; kernel_rfl)
set_option maxHeartbeats 8000000 in
theorem begin_d {W0 : World} (hg : Gl W0) : Calls Tryz.prog 57 #[.agg pl14] W0 fun e w' => e = .returned (.agg (dgc (bgF 8) (fun _ => 0) 0 0)) ∧ Below W0.heap.size W0 w' := by
  refine s_in Tryz.func57 Tryz.ntmps57 rfl [.inl (.agg pl14)] ?_
  intro β a h
  refine sym_seq ?_
  refine St.rg h [(1, .inr (0, pt 0)), (2, .inr (1, pt 0))] [(pl14, 92), (zdc, 96)] [] [eN 0, eN 1] ?_ ?_
  · exact oc (k_bx 0 (.agg pl14) bxPl rfl rfl) <|
    oc (k_al 1 alD rfl rfl) <|
    ok_nil
  clear h; intro β a w h
  refine sym_then ?_
  refine sym_seq ?_
  refine St.rg h [(5, .inl (.agg pl14)), (6, .inl (.agg (dgc (fun _ => 0) (fun _ => 0) 0 0))), (3, .inr (2, pt 0))] [(zdc, 96)] [(2, dgc (fun _ => 0) (fun _ => 0) 0 0)] [eR 0, nn, eN 2, eS 2] ?_ ?_
  · exact oc (k_ld 0 0 (.agg pl14) (c := pl14) (ldPl 92) rfl rfl) <|
    oc (k_bu #[(0, .agg pl14)] (.agg (dgc (fun _ => 0) (fun _ => 0) 0 0)) (fun w => by kernel_rfl) rfl rfl) <|
    oc (k_al 2 alD rfl rfl) <|
    oc (k_st 2 0 (.agg (dgc (fun _ => 0) (fun _ => 0) 0 0)) (c := zdc) (n := dgc (fun _ => 0) (fun _ => 0) 0 0) (stD (H := (fun _ => 0)) (p := (fun _ => 0)) (fl := 0) (ln := 0) (c := zdc) 96 (arr_size _ _)) rfl rfl) <|
    ok_nil
  clear h; intro β a w h
  refine sym_then ?_
  refine sym_seq ?_
  refine sym_seq ?_
  refine St.r0 h [(7, .inl (.int .i64 (0 : Nat)))] [] ?_ ?_
  · exact oz (k_mv (.inl rfl) rfl) <|
    ok_nil
  clear h; intro β a w h
  refine sym_then ?_
  refine blk_in ?_
  replace h := St.sm h 2 (dgc (bgF 0) (fun _ => 0) 0 0) (c := dgc (fun _ => 0) (fun _ => 0) 0 0) (t := 96) rfl
  obtain ⟨x, h⟩ := St.jn (n := 19) h [0, 1, 2, 3, 5, 6, 7] [.inl (.agg pl14), .inr (0, pt 0), .inr (1, pt 0), .inr (2, pt 0), .inl (.agg pl14), .inl (.agg (dgc (fun _ => 0) (fun _ => 0) 0 0)), .inl (.int .i64 (0 : Nat))] [(pl14, 92), (zdc, 96), (dgc (bgF 0) (fun _ => 0) 0 0, 96)] (by kernel_rfl) (by kernel_rfl) (by kernel_rfl)
  refine loop_up 8 (fun k a w => ∃ (x : Nat → SV) (β : Nat → Nat), St (wd W0) (ov (jk 19 x) ([0, 1, 2, 3, 5, 6, 7].zip [.inl (.agg pl14), .inr (0, pt 0), .inr (1, pt 0), .inr (2, pt 0), .inl (.agg pl14), .inl (.agg (dgc (fun _ => 0) (fun _ => 0) 0 0)), .inl (.int .i64 (k : Nat))])) [(pl14, 92), (zdc, 96), (dgc (bgF k) (fun _ => 0) 0 0, 96)] β a w) ⟨x, _, h⟩ ?_
  clear h; rintro k a w hkk ⟨x, β, h⟩
  rcases Nat.lt_or_ge k 8 with hltk | hgek
  · refine sym_seq ?_
    refine St.r0 h [(8, .inl (.bool true))] [] ?_ ?_
    · exact oz (k_bi (.int .i64 (k : Nat)) (.int .i64 (8 : Nat)) (.bool true) (lt_i (m := ((k : Nat) : Int)) (n := ((8 : Nat) : Int)) (decide_eq_true (by omega))) rfl rfl) <|
      ok_nil
    clear h; intro β a w h
    refine sym_then ?_
    refine sym_seq ?_
    refine s_ct h ?_
    refine wp_skip ?_
    refine sym_then ?_
    refine sym_seq ?_
    refine blk_in ?_
    refine sym_seq ?_
    refine St.r0 h [(9, .inl (.int .i64 (k : Nat))), (4, .inl (.int .i64 (k : Nat)))] [] ?_ ?_
    · exact oz (k_mv (.inl rfl) rfl) <|
      oz (k_mv (.inr rfl) rfl) <|
      ok_nil
    clear h; intro β a w h
    refine sym_then ?_
    refine St.rg h [(10, .inl (.int .i64 (k : Nat))), (11, .inl (.int .i64 (k : Nat))), (12, .inl (.pointer (some ⟨0, k, none⟩))), (13, .inl (.int .u64 ((sq k) : Nat))), (14, .inl (.int .u64 (((sq k) / 2 ^ 0) : Nat))), (15, .inr (2, pt 14)), (16, .inr (2, pt (14 + k)))] [] [(2, dgc (updN (bgF k) k ((sq k) / 2 ^ 0)) (fun _ => 0) 0 0)] [nn, nn, nn, nn, eR 2, nn, nn, eS 2] ?_ ?_
    · exact oc (k_mv (.inl rfl) rfl) <|
      oc (k_mv (.inl rfl) rfl) <|
      oc (k_is (.pointer (some ⟨0, 0, none⟩)) (.int .i64 (k : Nat)) (.pointer (some ⟨0, k, none⟩)) (fun w => ix8g (i := k) (by omega) w 0) rfl rfl) <|
      oc (k_lf (.pointer (some ⟨0, k, none⟩)) (.int .u64 ((sq k) : Nat)) (fun w hw => gl_sq hg (by omega) w hw) rfl rfl) <|
      oc (k_cb 91 (fun q => #[.pointer (some ⟨q, 0, none⟩), .int .u64 ((sq k) : Nat)]) (.int .u64 (((sq k) / 2 ^ 0) : Nat)) 2 3 (fun w q _ hq => lead_d hq) rfl rfl (by simp) (fm := pt 0) (t0 := 96) (c := dgc (bgF k) (fun _ => 0) 0 0)) <|
      oc (k_fa 2 0 14 rfl rfl) <|
      oc (k_ia 2 14 ((14 + k)) (.int .i64 (k : Nat)) (ix8w (i := k) (by omega)) rfl rfl) <|
      oc (k_st 2 ((14 + k)) (.int .u64 (((sq k) / 2 ^ 0) : Nat)) (c := dgc (bgF k) (fun _ => 0) 0 0) (n := dgc (updN (bgF k) k ((sq k) / 2 ^ 0)) (fun _ => 0) 0 0) (st_dgW (H := (bgF k)) (p := (fun _ => 0)) (fl := 0) (ln := 0) (t0 := 96) (i := k) (v := ((sq k) / 2 ^ 0)) (by omega)) rfl rfl) <|
      ok_nil
    clear h; intro β a w h
    refine blk_norm ?_
    refine sym_then ?_
    refine St.r0 h [(17, .inl (.int .i64 ((k + 1) : Nat))), (7, .inl (.int .i64 ((k + 1) : Nat)))] [eO] ?_ ?_
    · exact oc (k_b0 (.int .i64 (k : Nat)) (.int .i64 (1 : Nat)) (.int .i64 ((k + 1) : Nat)) (ad_i (m := k) (n := 1) (by omega)) rfl rfl) <|
      oz (k_mv (.inl rfl) rfl) <|
      ok_nil
    clear h; intro β a w h
    replace h := St.sm h 2 (dgc (bgF (k + 1)) (fun _ => 0) 0 0) (c := dgc (updN (bgF k) k ((sq k) / 2 ^ 0)) (fun _ => 0) 0 0) (t := 96) rfl
    obtain ⟨x, h⟩ := St.jn (n := 19) h [0, 1, 2, 3, 5, 6, 7] [.inl (.agg pl14), .inr (0, pt 0), .inr (1, pt 0), .inr (2, pt 0), .inl (.agg pl14), .inl (.agg (dgc (fun _ => 0) (fun _ => 0) 0 0)), .inl (.int .i64 ((k + 1) : Nat))] [(pl14, 92), (zdc, 96), (dgc (bgF (k + 1)) (fun _ => 0) 0 0, 96)] (by kernel_rfl) (by kernel_rfl) (by kernel_rfl)
    exact ⟨hltk, x, _, h⟩
  · obtain rfl : 8 = k := by omega
    refine sym_seq ?_
    refine St.r0 h [(8, .inl (.bool false))] [] ?_ ?_
    · exact oz (k_bi (.int .i64 (8 : Nat)) (.int .i64 (8 : Nat)) (.bool false) (lt_i (m := ((8 : Nat) : Int)) (n := ((8 : Nat) : Int)) (decide_eq_false (by omega))) rfl rfl) <|
      ok_nil
    clear h; intro β a w h
    refine sym_then ?_
    refine sym_seq ?_
    refine s_cf h ?_
    refine wp_exit ?_
    refine then_exit ?_
    refine then_exit ?_
    refine blk_exit ?_
    refine sym_then ?_
    refine sym_seq ?_
    refine St.rg h [(18, .inl (.agg (dgc (bgF 8) (fun _ => 0) 0 0)))] [] [(1, dgc (bgF 8) (fun _ => 0) 0 0)] [eR 2, eS 1] ?_ ?_
    · exact oc (k_ld 2 0 (.agg (dgc (bgF 8) (fun _ => 0) 0 0)) (c := dgc (bgF 8) (fun _ => 0) 0 0) (ldD (H := (bgF 8)) (p := (fun _ => 0)) (fl := 0) (ln := 0) 96) rfl rfl) <|
      oc (k_st 1 0 (.agg (dgc (bgF 8) (fun _ => 0) 0 0)) (c := zdc) (n := dgc (bgF 8) (fun _ => 0) 0 0) (stD (H := (bgF 8)) (p := (fun _ => 0)) (fl := 0) (ln := 0) (c := zdc) 96 (arr_size _ _)) rfl rfl) <|
      ok_nil
    clear h; intro β a w h
    refine sym_then ?_
    refine wp_ret ?_
    exact s_rc (b := 1) (t0 := 96) (c := dgc (bgF 8) (fun _ => 0) 0 0) h Tryz.results57 Tryz.underlying96 (fun hb => ⟨rfl, hb⟩) (by rw [dgc_size]; kernel_rfl)
end Go.Proofs.YtacokkedomjgpaaGreatDoor.Lo

namespace Go.Proofs.YtacokkedomjgpaaGreatDoor.Lo
open Go.RowKit

def cpF (p : Nat → Nat) (fl : Nat) (f : Nat → Nat) (k i : Nat) : Nat := if fl ≤ i ∧ i < fl + k then f (i - fl) else p i
theorem dgc_get {H p : Nat → Nat} {fl ln i : Nat} (h : i < 152) : (dgc H p fl ln)[i]? = some (dgv H p fl ln i) := arr_get _ _ _ h
theorem dgc_none {H p : Nat → Nat} {fl ln i : Nat} (h : 152 ≤ i) : (dgc H p fl ln)[i]? = none := by
  rw [Array.getElem?_eq_none]; rw [dgc_size]; exact h
theorem dgv_cp {H p f : Nat → Nat} {fl0 ln fl k i : Nat} (h : i < 22 + fl ∨ 22 + fl + k ≤ i) : dgv H p fl0 ln i = dgv H (cpF p fl f k) fl0 ln i := by
  unfold dgv
  by_cases h1 : i < 14
  · rw [if_pos h1, if_pos h1]
  · rw [if_neg h1, if_neg h1]
    by_cases h2 : i < 22
    · rw [if_pos h2, if_pos h2]
    · rw [if_neg h2, if_neg h2]
      by_cases h3 : i < 150
      · rw [if_pos h3, if_pos h3]
        have : cpF p fl f k (i - 22) = p (i - 22) := by unfold cpF; rw [if_neg (by omega)]
        rw [this]
      · rw [if_neg h3, if_neg h3]
theorem dgv_in {H p f : Nat → Nat} {fl0 ln fl k i : Nat} (h1 : 22 + fl ≤ i) (h2 : i < 22 + fl + k) (hk : fl + k ≤ 128) : dgv H (cpF p fl f k) fl0 ln i = .int .u8 (f (i - (22 + fl)) : Nat) := by
  have e : cpF p fl f k (i - 22) = f (i - (22 + fl)) := by unfold cpF; rw [if_pos (by omega), show i - 22 - fl = i - (22 + fl) by omega]
  unfold dgv
  rw [if_neg (by omega), if_neg (by omega), if_pos (by omega), e]
theorem cp_row {H p f : Nat → Nat} {fl0 ln fl k : Nat} (hk : fl + k ≤ 128) :
    ((dgc H p fl0 ln).toList.take (22 + fl) ++ (List.range k).map (fun j => Value.int .u8 (f j : Nat)) ++ (dgc H p fl0 ln).toList.drop (22 + fl + k)).toArray = dgc H (cpF p fl f k) fl0 ln := by
  have hl : (dgc H p fl0 ln).toList.length = 152 := by rw [Array.length_toList, dgc_size]
  apply Array.ext_getElem?
  intro i
  rw [List.getElem?_toArray]
  have hg : ∀ j, j < 152 → (dgc H p fl0 ln).toList[j]? = some (dgv H p fl0 ln j) := fun j hj => by rw [Array.getElem?_toList]; exact dgc_get hj
  rcases Nat.lt_or_ge i (22 + fl) with h1 | h1
  · rw [List.append_assoc, List.getElem?_append_left (by rw [List.length_take, hl]; omega), List.getElem?_take_of_lt h1, hg i (by omega), dgc_get (by omega), dgv_cp (Or.inl h1)]
  · rcases Nat.lt_or_ge i (22 + fl + k) with h2 | h2
    · rw [List.append_assoc, List.getElem?_append_right (by rw [List.length_take, hl]; omega), List.getElem?_append_left (by rw [List.length_map, List.length_range, List.length_take, hl]; omega), List.length_take, hl, Nat.min_eq_left (by omega), List.getElem?_map, List.getElem?_range (by omega), dgc_get (by omega)]
      rw [dgv_in h1 h2 hk, Option.map_some]
    · rw [List.getElem?_append_right (by rw [List.length_append, List.length_map, List.length_range, List.length_take, hl]; omega), List.length_append, List.length_map, List.length_range, List.length_take, hl, Nat.min_eq_left (by omega), List.getElem?_drop, show 22 + fl + k + (i - (22 + fl + k)) = i by omega]
      rcases Nat.lt_or_ge i 152 with h3 | h3
      · rw [hg i h3, dgc_get h3, dgv_cp (Or.inr h2)]
      · rw [List.getElem?_eq_none (by omega), dgc_none h3]
theorem cp_dg {H p f : Nat → Nat} {fl0 ln fl n c len cap q : Nat} {aa : Option Addr} {t0 : TypeId} {w : World} (ty : TypeId) (hl : 0 < len) (hf : fl + n ≤ 128) (hb : Bs w aa len f) (h : w.heap[q]? = some (.cells (dgc H p fl0 ln) t0 (0, 0))) :
    (Builtin.copy_ #[31, 31] ty #[.slice (some ⟨q, 22 + fl, none⟩) n c, .slice aa len cap]).run Tryz.prog w = .ok (.int .i64 (Nat.min len n : Nat)) (w.setRow q (dgc H (cpF p fl f (Nat.min len n)) fl0 ln)) := by
  obtain ⟨b, off, rfl, hc⟩ := hb.2 hl
  have hle : Nat.min len n ≤ n := Nat.min_le_right _ _
  have hle2 : Nat.min len n ≤ len := Nat.min_le_left _ _
  have hr := run_copy_row (P := Tryz.prog) w 31 31 ty 5 q (22 + fl) n c ⟨b, off, none⟩ len cap (dgc H p fl0 ln) t0 ((List.range (Nat.min len n)).map (fun j => Value.int .u8 (f j : Nat))) Tryz.underlying31 (by kernel_rfl) h (by simp) ?_ ?_ ?_
  · rw [hr]
    simp only [List.length_map, List.length_range]
    rw [cp_row (by omega)]
    rfl
  · intro j v hj
    simp only [List.getElem?_map] at hj
    rcases Nat.lt_or_ge j (Nat.min len n) with h1 | h1
    · rw [List.getElem?_range h1] at hj
      simp only [Option.map_some, Option.some.injEq] at hj
      subst hj
      rw [Addr.add_lit]
      exact hc j (by omega)
    · rw [List.getElem?_eq_none (by simpa using h1)] at hj; cases hj
  · rw [List.length_map, List.length_range, dgc_size]; omega
  · intro v hv
    obtain ⟨j, _, rfl⟩ := List.mem_map.1 hv
    rfl
end Go.Proofs.YtacokkedomjgpaaGreatDoor.Lo

namespace Go.Proofs.YtacokkedomjgpaaGreatDoor.Lo
open Go.RowKit

def a1 (s : (Nat → Nat) × (Nat → Nat) × Nat) (c : Nat) : (Nat → Nat) × (Nat → Nat) × Nat :=
  if s.2.2 + 1 = 128 then (mixH s.1 (updN s.2.1 s.2.2 c), updN s.2.1 s.2.2 c, 0) else (s.1, updN s.2.1 s.2.2 c, s.2.2 + 1)
def aS (s : (Nat → Nat) × (Nat → Nat) × Nat) (f : Nat → Nat) : Nat → (Nat → Nat) × (Nat → Nat) × Nat
  | 0 => s
  | k + 1 => a1 (aS s f k) (f k)
theorem cpF_0 (p : Nat → Nat) (fl : Nat) (f : Nat → Nat) : cpF p fl f 0 = p := by
  funext i; unfold cpF; rw [if_neg (by omega)]
theorem cpF_s (p : Nat → Nat) (fl : Nat) (f : Nat → Nat) (k : Nat) : cpF p fl f (k + 1) = updN (cpF p fl f k) (fl + k) (f k) := by
  funext i
  unfold cpF updN
  by_cases h : i = fl + k
  · subst h; rw [if_pos (by omega), if_pos rfl, show fl + k - fl = k by omega]
  · rw [if_neg h]
    show _ = if fl ≤ i ∧ i < fl + k then f (i - fl) else p i
    by_cases h1 : fl ≤ i ∧ i < fl + k
    · rw [if_pos h1, if_pos (by omega)]
    · rw [if_neg h1, if_neg (by omega)]
theorem aS_run (H p : Nat → Nat) (fl : Nat) (f : Nat → Nat) : ∀ k, fl + k < 128 → aS (H, p, fl) f k = (H, cpF p fl f k, fl + k)
  | 0, _ => by rw [cpF_0]; rfl
  | k + 1, h => by
    show a1 (aS (H, p, fl) f k) (f k) = _
    rw [aS_run H p fl f k (by omega)]
    unfold a1
    rw [if_neg (by show ¬ fl + k + 1 = 128; omega), cpF_s]
    rfl
theorem aS_full (H p : Nat → Nat) (fl : Nat) (f : Nat → Nat) {k : Nat} (hk : 0 < k) (h : fl + k = 128) : aS (H, p, fl) f k = (mixH H (cpF p fl f k), cpF p fl f k, 0) := by
  obtain ⟨j, rfl⟩ : ∃ j, k = j + 1 := ⟨k - 1, by omega⟩
  show a1 (aS (H, p, fl) f j) (f j) = _
  rw [aS_run H p fl f j (by omega)]
  unfold a1
  rw [if_pos (by show fl + j + 1 = 128; omega), cpF_s]
theorem aS_add (s : (Nat → Nat) × (Nat → Nat) × Nat) (f : Nat → Nat) (j : Nat) : ∀ k, aS s f (j + k) = aS (aS s f j) (fun i => f (j + i)) k
  | 0 => rfl
  | k + 1 => by
    show a1 (aS s f (j + k)) (f (j + k)) = a1 (aS (aS s f j) (fun i => f (j + i)) k) (f (j + k))
    rw [aS_add s f j k]
theorem aS_fl {s : (Nat → Nat) × (Nat → Nat) × Nat} {f : Nat → Nat} (h : s.2.2 < 128) : ∀ k, (aS s f k).2.2 < 128
  | 0 => h
  | k + 1 => by
    have ih := aS_fl (f := f) h k
    show (a1 (aS s f k) (f k)).2.2 < 128
    unfold a1
    split
    · show 0 < 128; omega
    · show (aS s f k).2.2 + 1 < 128; omega
theorem aS_H {s : (Nat → Nat) × (Nat → Nat) × Nat} {f : Nat → Nat} (h : ∀ i, s.1 i < B64) : ∀ k i, (aS s f k).1 i < B64
  | 0, i => h i
  | k + 1, i => by
    have ih := aS_H (f := f) h k
    show (a1 (aS s f k) (f k)).1 i < B64
    unfold a1
    split
    · exact mixH_lt ih i
    · exact ih i
theorem aS_p {s : (Nat → Nat) × (Nat → Nat) × Nat} {f : Nat → Nat} (h : ∀ i, s.2.1 i < 256) (hf : ∀ i, f i < 256) : ∀ k i, (aS s f k).2.1 i < 256
  | 0, i => h i
  | k + 1, i => by
    have ih := aS_p h hf k
    have hu : ∀ i, updN (aS s f k).2.1 (aS s f k).2.2 (f k) i < 256 := fun i => by
      unfold updN; split
      · exact hf k
      · exact ih i
    show (a1 (aS s f k) (f k)).2.1 i < 256
    unfold a1
    split
    · exact hu i
    · exact hu i
end Go.Proofs.YtacokkedomjgpaaGreatDoor.Lo

namespace Go.Proofs.YtacokkedomjgpaaGreatDoor.Lo
open Go.RowKit

theorem set_ln (H p : Nat → Nat) (fl ln v : Nat) : (dgc H p fl ln).setIfInBounds 151 (.int .u64 (v : Nat)) = dgc H p fl v := by
  unfold dgc
  rw [arr_set]
  refine arr_congr fun j hj => ?_
  unfold upd dgv
  by_cases e : j = 151
  · subst e; simp
  · rw [if_neg e]
    repeat' split
    all_goals first | rfl | omega
theorem set_fl (H p : Nat → Nat) (fl ln v : Nat) : (dgc H p fl ln).setIfInBounds 150 (.int .i64 (v : Nat)) = dgc H p v ln := by
  unfold dgc
  rw [arr_set]
  refine arr_congr fun j hj => ?_
  unfold upd dgv
  by_cases e : j = 150
  · subst e; simp
  · rw [if_neg e]
    repeat' split
    all_goals first | rfl | omega
theorem step_copy {w : World} {ops : Array Oper} {o : Oper} {a : Act} {K : Act → World → Prop} {Q : Exit → Act → World → Prop} {E : Prop} (hgd : o.guard = none) (s x : Operand)
    (ho : o.op = .call { callee := .builtin .copy, args := #[s, x], argTypes := #[31, 31] }) {H p f : Nat → Nat} {fl0 ln fl n c len cap q : Nat} {aa : Option Addr} {t0 : TypeId}
    (hs : a.eval s = .slice (some ⟨q, 22 + fl, none⟩) n c) (hx : a.eval x = .slice aa len cap) (hl : 0 < len) (hf : fl + n ≤ 128) (hb : Bs w aa len f) (hq : w.heap[q]? = some (.cells (dgc H p fl0 ln) t0 (0, 0)))
    (h : K (a.put o.dst (.int .i64 (Nat.min len n : Nat))) (w.setRow q (dgc H (cpF p fl f (Nat.min len n)) fl0 ln))) : if Region.wanted o (yielded ops a.tmps) = true then Oper.wp Tryz.prog o a w K Q else E := by
  have hw : Region.wanted o (yielded ops a.tmps) = true := by simp [Region.wanted, hgd]
  rw [if_pos hw]
  have hr := cp_dg (cap := cap) (c := c) o.type hl hf hb hq
  unfold Oper.wp execOp
  simp only [ho, resolve, invoke, builtin, Sem.run_bind, Sem.run_pure, Result.andThen_ok, List.map_toArray, List.map_cons, List.map_nil, hs, hx, hr]
  exact h
theorem size_e {w : World} {q : Nat} {H p : Nat → Nat} {fl ln : Nat} (hq : w.heap[q]? = some (.cells (dgc H p fl ln) 96 (0, 0))) : Calls Tryz.prog 92 #[.pointer (some ⟨q, 0, none⟩)] w fun e w' => e = .returned (.int .i64 128) ∧ w' = w := by
  have c0 : w.cell? ⟨q, 0, none⟩ = some (.int .i64 64) := dg_cell (i := 0) (by decide) hq
  clear hq
  go_enter Tryz.func92, Tryz.ntmps92
  go_wp2
  go_ret
  exact ⟨rfl, rfl⟩
theorem step_size {w : World} {ops : Array Oper} {o : Oper} {a : Act} {K : Act → World → Prop} {Q : Exit → Act → World → Prop} {E : Prop} (hgd : o.guard = none) (x : Operand) {tys : Array TypeId}
    (ho : o.op = .call { callee := .value (.func 92), args := #[x], argTypes := tys }) {H p : Nat → Nat} {fl ln q : Nat} (hx : a.eval x = .pointer (some ⟨q, 0, none⟩)) (hq : w.heap[q]? = some (.cells (dgc H p fl ln) 96 (0, 0)))
    (h : K (a.put o.dst (.int .i64 128)) w) : if Region.wanted o (yielded ops a.tmps) = true then Oper.wp Tryz.prog o a w K Q else E := by
  have hw : Region.wanted o (yielded ops a.tmps) = true := by simp [Region.wanted, hgd]
  rw [if_pos hw]
  refine oper_callg 92 #[x] tys ho #[.pointer (some ⟨q, 0, none⟩)] (by simp [hx]) (fun w => by kernel_rfl) (size_e hq) ?_
  rintro w' rfl
  exact h
structure Tk (W0 wr : World) (q : Nat) (s : (Nat → Nat) × (Nat → Nat) × Nat) (f : Nat → Nat) (len ln c : Nat) (a : Option Addr) (cap : Nat) : Prop where
  le : c ≤ len
  wt : Wrt W0 wr q (dgc (aS s f c).1 (aS s f c).2.1 (aS s f c).2.2 ln) 96
  bs : Bs wr a (len - c) (fun i => f (c + i))
  ne : ∀ x, a = some x → x.block ≠ q
  cp : len - c ≤ cap
theorem gl_wrt {w w' : World} {q : Nat} {H p : Nat → Nat} {fl ln : Nat} {cc : Array Value} {t : TypeId} (h : Gl w) (hq : w.heap[q]? = some (.cells (dgc H p fl ln) 96 (0, 0))) (k : Wrt w w' q cc t) : Gl w' := by
  obtain ⟨n0, n1⟩ := gl_ne h hq
  refine ⟨fun i hi => ?_, fun i hi => ?_⟩
  · have h1 := h.1 i hi
    rw [← h1]
    exact World.cell?_of_block (w := w) (k.block 0 (cell_lt h1) n0.symm)
  · have h1 := h.2 i hi
    rw [← h1]
    exact World.cell?_of_block (w := w) (k.block 1 (cell_lt h1) n1.symm)
set_option maxHeartbeats 4000000 in
set_option maxRecDepth 100000 in
theorem take_d {H p f : Nat → Nat} {fl ln q len cap : Nat} {a : Option Addr} {W0 : World} (hg : Gl W0) (hH : ∀ i, H i < B64) (hp : ∀ i, p i < 256) (hfl : fl < 128) (hb : Bs W0 a len f) (hne : ∀ x, a = some x → x.block ≠ q) (hcap : len ≤ cap) (hlen : len ≤ 1099511627776) (hq : W0.heap[q]? = some (.cells (dgc H p fl ln) 96 (0, 0))) :
    Calls Tryz.prog 59 #[.pointer (some ⟨q, 0, none⟩), .slice a len cap] W0 fun e w' => e = .returned (.tuple #[]) ∧ Wrt W0 w' q (dgc (aS (H, p, fl) f len).1 (aS (H, p, fl) f len).2.1 (aS (H, p, fl) f len).2.2 ((ln + len) % B64)) 96 := by
  have c151 : W0.cell? ⟨q, 151, none⟩ = some (.int .u64 (ln : Nat)) := dg_cell (i := 151) (by decide) hq
  have f151 := froz_dg hq 151
  have ew : IntKind.u64.wrap ((ln : Int) + (len : Int)) = (((ln + len) % B64 : Nat) : Int) := by rw [w64, ← B64_i]; simp
  have ew0 : IntKind.u64.wrap (len : Int) = (len : Int) := by rw [w64]; omega
  have hw1 : Wrt W0 (W0.setCell ⟨q, 151, none⟩ (.int .u64 ((ln + len) % B64 : Nat))) q (dgc H p fl ((ln + len) % B64)) 96 := by
    have := wrt_cell hq 151 (.int .u64 ((ln + len) % B64 : Nat))
    rwa [set_ln] at this
  generalize hL : (ln + len) % B64 = L at *
  replace hL := hide1 hL
  go_enter Tryz.func59, Tryz.ntmps59
  go_wp2_with fail
  generalize W0.setCell ⟨q, 151, none⟩ (.int .u64 (L : Nat)) = w1 at hw1 ⊢
  have hb1 := hb.wrt hw1 hne
  have hfb := hb.1
  clear c151 f151 ew ew0 hb
  go_loopw [1] (fun v wr => ∃ (c : Nat) (a' : Option Addr) (cap' : Nat), v = .slice a' (len - c) cap' ∧ Tk W0 wr q (H, p, fl) f len L c a' cap') (fun v _ => match v with | .slice _ n _ => n | _ => 0)
  case atStart => exact ⟨0, a, cap, rfl, Nat.zero_le _, hw1, by simpa using hb1, hne, hcap⟩
  case round =>
    clear hb1 hw1 hne
    obtain ⟨c, a1, cap1, rfl, hT⟩ := hrel
    have hfl1 : (aS (H, p, fl) f c).2.2 < 128 := aS_fl hfl c
    have hH1 := aS_H (s := (H, p, fl)) (f := f) hH c
    have hle := hT.le
    by_cases hlt : c < len
    · have hbs := hT.bs
      have hp1 := aS_p (s := (H, p, fl)) (f := f) hp hfb c
      have hwt := hT.wt
      have hcp := hT.cp
      have hnq := hT.ne
      have hm0 : 0 < len - c := by omega
      have hadd := fun k => aS_add (H, p, fl) f c k
      clear hT
      generalize aS (H, p, fl) f c = st at *
      obtain ⟨H1, p1, fl1⟩ := st
      simp only at hfl1 hH1 hp1 hwt hadd
      have hq1 := hwt.row
      obtain ⟨n, hn⟩ : ∃ n, n = Nat.min (len - c) (128 - fl1) := ⟨_, rfl⟩
      have hn1 : n ≤ len - c := by rw [hn]; exact Nat.min_le_left _ _
      have hn2 : n ≤ 128 - fl1 := by rw [hn]; exact Nat.min_le_right _ _
      have hn3 : 0 < n := by rw [hn]; exact Nat.lt_min.2 ⟨hm0, by omega⟩
      obtain ⟨a2, hsl2, hb2, hbk⟩ := from_bs (n := n) hbs hm0 hn1 hcp
      have c150 : wr.cell? ⟨q, 150, none⟩ = some (.int .i64 (fl1 : Nat)) := dg_cell (i := 150) (by decide) hq1
      have hsl : ∀ w : World, (Instr.sliceAt 94 (.pointer (some ⟨q, 22, none⟩)) (some (.int .i64 (fl1 : Nat))) (some (.int .i64 128)) none).run Tryz.prog w = .ok (.slice (some ⟨q, 22 + fl1, none⟩) (128 - fl1) (128 - fl1)) w := fun w => sl_pc (lo := fl1) (hi := 128) (n := 128 - fl1) (c := 128 - fl1) (by omega) (by omega) (by omega) (by omega) w q
      have hw2 := wrt_row (c' := dgc H1 (cpF p1 fl1 (fun i => f (c + i)) n) fl1 L) hq1
      have hne2 : ∀ a' : Option Addr, (∀ x y : Addr, a1 = some x → a' = some y → y.block = x.block) → ∀ y : Addr, a' = some y → y.block ≠ q := fun a' hk y ey => by
        obtain ⟨b, off, e, _⟩ := hbs.2 hm0
        rw [hk _ y e ey]
        exact hnq _ e
      have hn' := hide1 hn
      have hbs' := hide1 hbs
      have hsl' := hsl
      clear hn hbs
      go_wp2_with fail
      go_region_law (first
        | (refine step_size rfl (.tmp 25) rfl (by first | (simp [Act.eval]; done) | (simp [Act.eval, Act.put]; done) | rfl) hq1 ?_)
        | (refine step_copy rfl (.tmp 27) (.tmp 28) rfl (fl := fl1) (n := 128 - fl1) (c := 128 - fl1) (len := len - c) (cap := cap1) (aa := a1) (f := fun i => f (c + i)) (by first | (simp [Act.eval]; done) | (simp [Act.eval, Act.put]; done) | rfl) (by first | (simp [Act.eval]; done) | (simp [Act.eval, Act.put]; done) | rfl) hm0 (by omega) hbs'.out hq1 ?_))
      all_goals
        rw [← hn'.out]
        have hw3 : Wrt W0 (wr.drew.setRow q (dgc H1 (cpF p1 fl1 (fun i => f (c + i)) n) fl1 L)) q (dgc H1 (cpF p1 fl1 (fun i => f (c + i)) n) fl1 L) 96 := hwt.trans ⟨hw2.os, hw2.tape, hw2.output, hw2.size, hw2.block, hw2.row⟩
        have hb3 : Bs (wr.drew.setRow q (dgc H1 (cpF p1 fl1 (fun i => f (c + i)) n) fl1 L)) a2 (len - c - n) (fun i => f (c + (n + i))) := hb2.wrt (w' := wr.drew.setRow q (dgc H1 (cpF p1 fl1 (fun i => f (c + i)) n) fl1 L)) ⟨hw2.os, hw2.tape, hw2.output, hw2.size, hw2.block, hw2.row⟩ (hne2 a2 hbk)
        clear hw2 hb2 c150 hsl hsl' hbs'
        generalize wr.drew.setRow q (dgc H1 (cpF p1 fl1 (fun i => f (c + i)) n) fl1 L) = w2 at hw3 hb3 ⊢
        have d150 : w2.cell? ⟨q, 150, none⟩ = some (.int .i64 (fl1 : Nat)) := dg_cell (i := 150) (by decide) hw3.row
        have g150 := froz_dg hw3.row 150
        have hw4 := wrt_cell hw3.row 150 (.int .i64 (fl1 + n : Nat))
        rw [set_fl] at hw4
        have ecast : ((fl1 + n : Nat) : Int) = (fl1 : Int) + (n : Int) := by omega
        rw [ecast] at hw4
        go_upto_region 5 with fail
        have hw5 := hw3.trans hw4
        have hb5 := hb3.wrt hw4 (hne2 a2 hbk)
        clear hw3 hw4 hb3 d150 g150
        generalize w2.setCell ⟨q, 150, none⟩ (.int .i64 ((fl1 : Int) + (n : Int))) = w3 at hw5 hb5 ⊢
        have e150 : w3.cell? ⟨q, 150, none⟩ = some (.int .i64 ((fl1 : Int) + (n : Int))) := by rw [← ecast]; exact dg_cell (i := 150) (by decide) hw5.row
        have hsz : ∀ k, Calls Tryz.prog 92 #[.pointer (some ⟨q, 0, none⟩)] (w3.drewN k) fun e w' => e = .returned (.int .i64 128) ∧ w' = w3.drewN k := fun k => size_e (by simpa using hw5.row)
        go_quiet ((go_at_call 92; refine Calls.quiet_of_same (hsz _)))
        have hw6 : Wrt W0 (w3.drewN nq) q (dgc H1 (cpF p1 fl1 (fun i => f (c + i)) n) (fl1 + n) L) 96 := hw5.later (Array.getElem?_eq_some_iff.1 hw5.row).1 (below_dN w3 nq)
        have hb6 := hb5.later (below_dN w3 nq)
        clear hw5 hb5 e150 hsz
        generalize w3.drewN nq = w4 at hw6 hb6 ⊢
        have hml : ∀ i, cpF p1 fl1 (fun i => f (c + i)) n i < 256 := fun i => by
          unfold cpF
          split
          · exact hfb _
          · exact hp1 i
        have elen : len - (c + n) = len - c - n := by omega
        have hcp2 : len - (c + n) ≤ cap1 - n := by omega
        have hfs : (fun i => f (c + n + i)) = fun i => f (c + (n + i)) := by funext i; rw [Nat.add_assoc]
        by_cases hful : fl1 + n = 128
        · have hbq : ((fl1 : Int) + (n : Int) == 128) = true := by simp; omega
          have hmx := mix_d (gl_wrt hg hq hw6) hH1 hml hw6.row
          have hst := (hadd n).trans (aS_full H1 p1 fl1 (fun i => f (c + i)) hn3 hful)
          go_wp2_with fail
          refine hmx.mono ?_
          rintro e w5 ⟨rfl, hw7⟩
          have d150 : w5.cell? ⟨q, 150, none⟩ = some (.int .i64 (fl1 + n : Nat)) := dg_cell (i := 150) (by decide) hw7.row
          have g150 := froz_dg hw7.row 150
          have hw8 := wrt_cell hw7.row 150 (.int .i64 (0 : Nat))
          rw [set_fl] at hw8
          have hTk : Tk W0 (w5.setCell ⟨q, 150, none⟩ (.int .i64 0)) q (H, p, fl) f len L (c + n) a2 (cap1 - n) := by
            refine ⟨by omega, ?_, ?_, hne2 a2 hbk, hcp2⟩
            · rw [hst]
              exact (hw6.trans hw7).trans hw8
            · rw [elen, hfs]
              exact (hb6.wrt hw7 (hne2 a2 hbk)).wrt hw8 (hne2 a2 hbk)
          clear hmx hw6 hw7 hw8 hb6 hst
          go_wp2
          exact ⟨⟨c + n, a2, cap1 - n, by rw [elen], hTk⟩, by simp; omega⟩
        · have hbq : ((fl1 : Int) + (n : Int) == 128) = false := by simp; omega
          have hst := (hadd n).trans (aS_run H1 p1 fl1 (fun i => f (c + i)) n (by omega))
          have hTk : Tk W0 w4 q (H, p, fl) f len L (c + n) a2 (cap1 - n) := by
            refine ⟨by omega, ?_, ?_, hne2 a2 hbk, hcp2⟩
            · rw [hst]
              exact hw6
            · rw [elen, hfs]
              exact hb6
          clear hw6 hb6 hst
          go_wp2
          exact ⟨⟨c + n, a2, cap1 - n, by rw [elen], hTk⟩, by simp; omega⟩
    · obtain rfl : c = len := by omega
      have hfin := hT.wt
      have e0 : c - c = 0 := by omega
      rw [e0]
      clear hT
      go_wp2
      go_end0
      refine ⟨rfl, ?_⟩
      exact hfin
end Go.Proofs.YtacokkedomjgpaaGreatDoor.Lo

namespace Go.Proofs.YtacokkedomjgpaaGreatDoor
open Go.RowKit

theorem add64_ex (x y c : Nat) (hx : x < 18446744073709551616) (hy : y < 18446744073709551616) (hc : c ≤ 1) : ∃ s k : Nat, s < 18446744073709551616 ∧ k ≤ 1 ∧ Hid (s + 18446744073709551616 * k = x + y + c) ∧
    ∀ w, (callFunc 89 #[.int .u64 x, .int .u64 y, .int .u64 c]).run Tryz.prog w = .ok (.value (.tuple #[.int .u64 s, .int .u64 k])) w := by
  refine ⟨(x + y + c) % 18446744073709551616, (x + y + c) / 18446744073709551616, by omega, by omega, hide1 (by omega), fun w => ?_⟩
  rw [run_callFunc_extern Tryz.func89 (by kernel_rfl) (by kernel_rfl) (by kernel_rfl) (e := add64Entry) (by kernel_rfl), run_add64 x y c (by omega) (by omega) (by omega) (by omega)]
  simp only [Result.andThen]
  congr 5 <;> omega

theorem add64_ex0 (x y : Nat) (hx : x < 18446744073709551616) (hy : y < 18446744073709551616) : ∃ s k : Nat, s < 18446744073709551616 ∧ k ≤ 1 ∧ Hid (s + 18446744073709551616 * k = x + y) ∧
    ∀ w, (callFunc 89 #[.int .u64 x, .int .u64 y, .int .u64 0]).run Tryz.prog w = .ok (.value (.tuple #[.int .u64 s, .int .u64 k])) w :=
  add64_ex x y 0 hx hy (by omega)

theorem sub64_ex (x y c : Nat) (hx : x < 18446744073709551616) (hy : y < 18446744073709551616) (hc : c ≤ 1) : ∃ s k : Nat, s < 18446744073709551616 ∧ k ≤ 1 ∧ Hid (s + y + c = x + 18446744073709551616 * k) ∧
    ∀ w, (callFunc 90 #[.int .u64 x, .int .u64 y, .int .u64 c]).run Tryz.prog w = .ok (.value (.tuple #[.int .u64 s, .int .u64 k])) w := by
  refine ⟨(x + 18446744073709551616 - y - c) % 18446744073709551616, if x < y + c then 1 else 0, by omega, by split <;> omega, hide1 (by split <;> omega), fun w => ?_⟩
  rw [run_callFunc_extern Tryz.func90 (by kernel_rfl) (by kernel_rfl) (by kernel_rfl) (e := sub64Entry) (by kernel_rfl), run_sub64 x y c hc]
  rfl

theorem wrapN (a : Nat) (ha : a < 18446744073709551616) : IntKind.u64.wrap (a : Int) = (a : Int) := by rw [IntKind.wrap_u64]; omega

set_option maxHeartbeats 1000000 in
theorem mul64 (x y : Nat) (hx : x < 18446744073709551616) (hy : y < 18446744073709551616) (w : World) :
    Calls Tryz.prog 105 #[.int .u64 x, .int .u64 y] w fun e w' => e = .returned (.tuple #[.int .u64 (x * y / 18446744073709551616 : Nat), .int .u64 (x * y % 18446744073709551616 : Nat)]) ∧ w' = w := by
  obtain ⟨bd, bt, bw, hhi⟩ := Lib.mul64_hi x y hx hy
  have ba := Lib.half_mul_le (a := x / 4294967296) (b := y / 4294967296) (by omega) (by omega)
  have bb := Lib.half_mul_le (a := x / 4294967296) (b := y % 4294967296) (by omega) (by omega)
  have bc := Lib.half_mul_le (a := x % 4294967296) (b := y / 4294967296) (by omega) (by omega)
  have ba' : x / 4294967296 * (y / 4294967296) < 18446744073709551616 := by omega
  have bb' : x / 4294967296 * (y % 4294967296) < 18446744073709551616 := by omega
  have bc' : x % 4294967296 * (y / 4294967296) < 18446744073709551616 := by omega
  have bh1 : x / 4294967296 * (y / 4294967296) + (x / 4294967296 * (y % 4294967296) + x % 4294967296 * (y % 4294967296) / 4294967296) / 4294967296 < 18446744073709551616 := by omega
  have bh : x / 4294967296 * (y / 4294967296) + (x / 4294967296 * (y % 4294967296) + x % 4294967296 * (y % 4294967296) / 4294967296) / 4294967296 + ((x / 4294967296 * (y % 4294967296) + x % 4294967296 * (y % 4294967296) / 4294967296) % 4294967296 + x % 4294967296 * (y / 4294967296)) / 4294967296 < 18446744073709551616 := by omega
  go_enter Tryz.func105, Tryz.ntmps105
  go_wp2
  simp only [Mul64.maskN x hx, Mul64.maskN y hy, Mul64.divN, Mul64.mulN, Mul64.addN, Mul64.wrapN _ bd, Mul64.wrapN _ bb', Mul64.wrapN _ bt, Mul64.maskN _ bt, Mul64.wrapN _ bc', Mul64.wrapN _ bw, Mul64.wrapN _ ba', Mul64.wrapN _ bh1, Mul64.wrapN _ bh, Mul64.wrapM (x * y)]
  rw [hhi]
  go_ret2
  exact ⟨rfl, rfl⟩

theorem mul64_ex (x y : Nat) (hx : x < 18446744073709551616) (hy : y < 18446744073709551616) (w : World) :
    Calls Tryz.prog 105 #[.int .u64 x, .int .u64 y] w fun e w' => ∃ hi lo : Nat, hi < 18446744073709551616 - 1 ∧ lo < 18446744073709551616 ∧ Hid (lo + 18446744073709551616 * hi = x * y) ∧ e = .returned (.tuple #[.int .u64 hi, .int .u64 lo]) ∧ w' = w := by
  refine (mul64 x y hx hy w).mono ?_
  rintro e w' ⟨rfl, rfl⟩
  have hb : x * y ≤ 18446744073709551615 * 18446744073709551615 := Nat.mul_le_mul (by omega) (by omega)
  exact ⟨_, _, by omega, Nat.mod_lt _ (by omega), hide1 (by omega), rfl, rfl⟩

set_option maxHeartbeats 1000000 in
theorem step_any (a m n o : Nat) (ha : a < 18446744073709551616) (hm : m < 18446744073709551616) (hn : n < 18446744073709551616) (ho : o < 18446744073709551616) (w : World) :
    Calls Tryz.prog 100 #[.int .u64 a, .int .u64 m, .int .u64 n, .int .u64 o] w fun e w' => ∃ lo hi : Nat, lo < 18446744073709551616 ∧ hi < 18446744073709551616 ∧ Hid (lo + 18446744073709551616 * hi = a + m * n + o) ∧ e = .returned (.tuple #[.int .u64 lo, .int .u64 hi]) ∧ w' = w := by
  go_enter Tryz.func100, Tryz.ntmps100
  go_wp2_with fail
  refine (mul64_ex m n hm hn _).mono ?_
  rintro e w1 ⟨hi, lo, h1, h2, h3, rfl, rfl⟩
  obtain ⟨s, k, hs, hk, e1, c1⟩ := add64_ex0 lo a h2 ha
  obtain ⟨t, j, ht, hj, e2, c2⟩ := add64_ex0 s o hs ho
  have hb : m * n ≤ 18446744073709551615 * 18446744073709551615 := Nat.mul_le_mul (by omega) (by omega)
  have b1 : hi + k < 18446744073709551616 := by have := h3.out; have := e1.out; omega
  have b2 : hi + k + j < 18446744073709551616 := by have := h3.out; have := e1.out; have := e2.out; omega
  clear hb
  go_wp2
  go_ret2
  refine ⟨t, hi + k + j, ht, b2, hide1 ?_, ?_, rfl⟩
  · have := h3.out; have := e1.out; have := e2.out; omega
  · simp

theorem step_ex (a m n o : Nat) (ha : a < 18446744073709551616) (hm : m < 18446744073709551616) (hn : n < 18446744073709551616) (ho : o < 18446744073709551616) :
    ∃ lo hi : Nat, lo < 18446744073709551616 ∧ hi < 18446744073709551616 ∧ Hid (lo + 18446744073709551616 * hi = a + m * n + o) ∧
      ∀ w, Calls Tryz.prog 100 #[.int .u64 a, .int .u64 m, .int .u64 n, .int .u64 o] w fun e w' => e = .returned (.tuple #[.int .u64 lo, .int .u64 hi]) ∧ w' = w := by
  have hb : m * n ≤ 18446744073709551615 * 18446744073709551615 := Nat.mul_le_mul (by omega) (by omega)
  refine ⟨(a + m * n + o) % 18446744073709551616, (a + m * n + o) / 18446744073709551616, by omega, by omega, hide1 (by omega), fun w => ?_⟩
  refine (step_any a m n o ha hm hn ho w).mono ?_
  rintro e w' ⟨lo, hi, h1, h2, h3, rfl, rfl⟩
  have h := h3.out
  have e1 : (a + m * n + o) % 18446744073709551616 = lo := by omega
  have e2 : (a + m * n + o) / 18446744073709551616 = hi := by omega
  rw [e1, e2]
  exact ⟨rfl, rfl⟩
end Go.Proofs.YtacokkedomjgpaaGreatDoor

namespace Go.Proofs.YtacokkedomjgpaaGreatDoor.Lo
open Go.RowKit

theorem aS_mod {s : (Nat → Nat) × (Nat → Nat) × Nat} {f : Nat → Nat} (h : s.2.2 < 128) : ∀ k, (aS s f k).2.2 = (s.2.2 + k) % 128
  | 0 => by show s.2.2 = _; omega
  | k + 1 => by
    have ih := aS_mod (f := f) h k
    show (a1 (aS s f k) (f k)).2.2 = _
    unfold a1
    split
    · show 0 = _; omega
    · show (aS s f k).2.2 + 1 = _; omega
def padS (s : (Nat → Nat) × (Nat → Nat) × Nat) (ln : Nat) : (Nat → Nat) × (Nat → Nat) × Nat :=
  aS (aS (aS s (fun _ => 128) 1) (fun _ => 0) ((240 - (aS s (fun _ => 128) 1).2.2) % 128)) (cntF ln) 16
def restZ (q : Nat) (w : World) : Nat := match w.cell? ⟨q, 150, none⟩ with
  | some (.int _ v) => (240 - v.toNat) % 128
  | _ => 0
set_option maxHeartbeats 4000000 in
set_option maxRecDepth 100000 in
theorem pad_d {H p : Nat → Nat} {fl ln q : Nat} {W0 : World} (hg : Gl W0) (hH : ∀ i, H i < B64) (hp : ∀ i, p i < 256) (hfl : fl < 128) (hln : ln < 18446744073709551616) (hq : W0.heap[q]? = some (.cells (dgc H p fl ln) 96 (0, 0))) :
    Calls Tryz.prog 94 #[.pointer (some ⟨q, 0, none⟩)] W0 fun e w' => e = .returned (.tuple #[]) ∧ ∃ ln', Wrt W0 w' q (dgc (padS (H, p, fl) ln).1 (padS (H, p, fl) ln).2.1 (padS (H, p, fl) ln).2.2 ln') 96 := by
  have hqlt := (Array.getElem?_eq_some_iff.1 hq).1
  have hal : Below W0.heap.size W0 (W0.alloc (.cells (ab 16 (fun _ => 0)) 141)) := (Below.refl _ _).alloc (Nat.le_refl _) _
  have hg0 := (MapKept.heap_alloc W0 (.cells (ab 16 (fun _ => 0)) 141)).1
  have hw0 := (Wrt.start hq).later hqlt hal
  rw [zero16] at hal hg0 hw0
  go_enter Tryz.func94, Tryz.ntmps94
  go_upto_region 1 with fail
  generalize W0.alloc (.cells #[.int .u8 0, .int .u8 0, .int .u8 0, .int .u8 0, .int .u8 0, .int .u8 0, .int .u8 0, .int .u8 0, .int .u8 0, .int .u8 0, .int .u8 0, .int .u8 0, .int .u8 0, .int .u8 0, .int .u8 0, .int .u8 0] 141) = w1 at hal hg0 hw0 ⊢
  rw [← zero16] at hg0
  have hs1 := hal.size
  have c151 : w1.cell? ⟨q, 151, none⟩ = some (.int .u64 (ln : Nat)) := dg_cell (i := 151) (by decide) hw0.row
  have hgq : W0.heap.size ≠ q := by omega
  go_wp2_with fail
  refine (mul64 ln 8 hln (by decide) _).mono ?_
  rintro e w1 ⟨rfl, rfl⟩
  clear c151
  go_wp2_with fail
  refine (put_d (N := 16) (off := 0) (cap := 16) (v0 := ln * 8 / 18446744073709551616) (by decide) hg0).mono ?_
  rintro e w2 ⟨rfl, hp2⟩
  go_wp2_with fail
  refine (put_d (N := 16) (off := 8) (cap := 8) (v0 := ln * 8 % 18446744073709551616) (by decide) hp2.row).mono ?_
  rintro e w3 ⟨rfl, hp3⟩
  have hrow3 : w3.heap[W0.heap.size]? = some (.cells (ab 16 (cntF ln)) 141 (0, 0)) := hp3.row
  have hq1 := Nat.lt_of_lt_of_le hqlt hs1
  have hw3 := (hw0.other hp2 (Nat.le_refl _) (by omega) hq1).other hp3 (Nat.le_refl _) (by omega) (Nat.lt_of_lt_of_le hq1 hp2.size)
  clear hp2 hp3 hg0 hw0 hal
  go_wp2_with fail
  refine (size_e hw3.row).mono ?_
  rintro e w3 ⟨rfl, rfl⟩
  -- 0x80
  have hal4 : Below w3.heap.size w3 (w3.alloc (.cells #[.int .u8 128] 5)) := (Below.refl _ _).alloc (Nat.le_refl _) _
  have hs3 := hw3.size
  have hw4 := hw3.later (Array.getElem?_eq_some_iff.1 hw3.row).1 hal4
  have hr4 := (hal4.block _ (Array.getElem?_eq_some_iff.1 hrow3).1).trans hrow3
  have htk := take_d (cap := 1) (gl_wrt hg hq hw4) hH hp hfl (bs_one w3 128 (by decide)) (fun x e => by cases e; show w3.heap.size ≠ q; omega) (Nat.le_refl _) (by decide) hw4.row
  go_wp2_with fail
  refine htk.mono ?_
  rintro e w4 ⟨rfl, hw5⟩
  have hr5 := (hw5.block _ (Array.getElem?_eq_some_iff.1 hr4).1 hgq).trans hr4
  replace hw5 := hw4.trans hw5
  have hH1 := aS_H (s := (H, p, fl)) (f := fun _ => 128) hH 1
  have hp1 := aS_p (s := (H, p, fl)) (f := fun _ => 128) hp (fun _ => by decide) 1
  have hf1 : (aS (H, p, fl) (fun _ => 128) 1).2.2 < 128 := aS_fl hfl 1
  have hpS : padS (H, p, fl) ln = aS (aS (aS (H, p, fl) (fun _ => 128) 1) (fun _ => 0) ((240 - (aS (H, p, fl) (fun _ => 128) 1).2.2) % 128)) (cntF ln) 16 := rfl
  replace hpS := hide1 hpS
  clear htk hw4 hr4 hal4 hw3 hrow3
  generalize aS (H, p, fl) (fun _ => 128) 1 = s1 at *
  generalize hz : (240 - s1.2.2) % 128 = z at *
  replace hz := hide1 hz
  go_wp2
  go_loopw [] (fun wr => ∃ j ln' : Nat, j ≤ z ∧ Wrt W0 wr q (dgc (aS s1 (fun _ => 0) j).1 (aS s1 (fun _ => 0) j).2.1 (aS s1 (fun _ => 0) j).2.2 ln') 96 ∧ wr.heap[W0.heap.size]? = some (.cells (ab 16 (cntF ln)) 141 (0, 0))) (fun wr => restZ q wr)
  case atStart => exact ⟨0, _, Nat.zero_le _, hw5, hr5⟩
  case round =>
    clear hw5 hr5
    obtain ⟨j, ln', hj, hw, hr⟩ := hrel
    have hm := aS_mod (f := fun _ => 0) hf1 j
    have hzo := hz.out
    have e150 : wr.cell? ⟨q, 150, none⟩ = some (.int .i64 ((aS s1 (fun _ => 0) j).2.2 : Nat)) := dg_cell (i := 150) (by decide) hw.row
    have hsz : ∀ k, Calls Tryz.prog 92 #[.pointer (some ⟨q, 0, none⟩)] (wr.drewN k) fun e w' => e = .returned (.int .i64 128) ∧ w' = wr.drewN k := fun k => size_e (by simpa using hw.row)
    have hH2 := aS_H (s := s1) (f := fun _ => 0) hH1 j
    have hp2 := aS_p (s := s1) (f := fun _ => 0) hp1 (fun _ => by decide) j
    have hf2 : (aS s1 (fun _ => 0) j).2.2 < 128 := aS_fl hf1 j
    have hst : aS s1 (fun _ => 0) (j + 1) = aS (aS s1 (fun _ => 0) j) (fun _ => 0) 1 := aS_add s1 (fun _ => 0) j 1
    have hrz : restZ q wr = (240 - (aS s1 (fun _ => 0) j).2.2) % 128 := by unfold restZ; rw [e150]; simp
    have hwl := hw.size
    by_cases hd : (aS s1 (fun _ => 0) j).2.2 = 112
    · obtain rfl : j = z := by omega
      have hbq : ((((aS s1 (fun _ => 0) j).2.2 : Nat) : Int) == 112) = true := by simp; omega
      rw [hd] at e150
      have hb0 : Bs wr (some ⟨W0.heap.size, 0, none⟩) 16 (cntF ln) := by
        have := bs_ab (off := 0) (n := 16) (cnt_lt ln) hr (by decide)
        simpa using this
      clear hr hrz hst
      go_wp2_with fail
      go_quiet ((go_at_call 92; refine Calls.quiet_of_same (hsz _)))
      have hw6 := hw.later (Array.getElem?_eq_some_iff.1 hw.row).1 (below_dN wr nq)
      have hb6 := hb0.later (below_dN wr nq)
      have htk := take_d (cap := 16) (gl_wrt hg hq hw6) hH2 hp2 hf2 hb6 (fun x e => by cases e; exact hgq) (Nat.le_refl _) (by decide) hw6.row
      clear hsz hw hb0
      go_wp2_with fail
      refine htk.mono ?_
      rintro e w7 ⟨rfl, hw7⟩
      rw [eta3 (aS s1 (fun _ => 0) j), ← hpS.out] at hw7
      have hfin := hw6.trans hw7
      clear htk hw6 hw7
      go_wp2
      go_end0
      exact ⟨rfl, _, hfin⟩
    · have hbq : ((((aS s1 (fun _ => 0) j).2.2 : Nat) : Int) != 112) = true := by simp; omega
      have hjz : j < z := by
        rcases Nat.lt_or_ge j z with h | h
        · exact h
        · exfalso; omega
      have hnx := aS_mod (f := fun _ => 0) hf1 (j + 1)
      replace hm := hide1 hm
      replace hnx := hide1 hnx
      replace hrz := hide1 hrz
      obtain ⟨T, hT⟩ : ∃ T, Hid (T = aS s1 (fun _ => 0) (j + 1)) := ⟨_, hide1 rfl⟩
      rw [← hT.out] at hst hnx
      replace hst := hide1 hst
      generalize hF : aS s1 (fun _ => 0) j = A at *
      replace hF := hide1 hF
      obtain ⟨A1, A2, A3⟩ := A
      simp only at hw e150 hbq hH2 hp2 hf2
      clear hd
      go_wp2_with fail
      go_quiet ((go_at_call 92; refine Calls.quiet_of_same (hsz _)))
      have hw6 := hw.later (Array.getElem?_eq_some_iff.1 hw.row).1 (below_dN wr nq)
      have hr6 := ((below_dN wr nq).block _ (Array.getElem?_eq_some_iff.1 hr).1).trans hr
      clear hsz hw hr e150
      generalize wr.drewN nq = w4 at hw6 hr6 ⊢
      have hal : Below w4.heap.size w4 (w4.alloc (.cells #[.int .u8 0] 5)) := (Below.refl _ _).alloc (Nat.le_refl _) _
      have hw7 := hw6.later (Array.getElem?_eq_some_iff.1 hw6.row).1 hal
      have hr7 := (hal.block _ (Array.getElem?_eq_some_iff.1 hr6).1).trans hr6
      have hs4 := hw6.size
      have hb4 : Bs (w4.alloc (.cells #[.int .u8 0] 5)) (some ⟨w4.heap.size, 0, none⟩) 1 (fun _ => 0) := bs_one w4 0 (by decide)
      have htk := take_d (cap := 1) (gl_wrt hg hq hw7) hH2 hp2 hf2 hb4 (fun x e => by cases e; show w4.heap.size ≠ q; omega) (Nat.le_refl _) (by decide) hw7.row
      rw [← hst.out] at htk
      clear hb4 hH2 hp2 hf2 hwl
      go_wp2_with fail
      refine htk.mono ?_
      rintro e w8 ⟨rfl, hw8⟩
      have hr8 := (hw8.block _ (Array.getElem?_eq_some_iff.1 hr7).1 hgq).trans hr7
      replace hw8 := hw7.trans hw8
      have hrz2 : restZ q w8 = (240 - T.2.2) % 128 := by
        have e9 : w8.cell? ⟨q, 150, none⟩ = some (.int .i64 (T.2.2 : Nat)) := dg_cell (i := 150) (by decide) hw8.row
        unfold restZ; rw [e9]; simp
      have hmeas : restZ q w8 < restZ q wr := by
        have h1 := hm.out
        have h2 := hnx.out
        have h3 := hrz.out
        try simp only at h1
        try simp only at h3
        rw [hrz2, h3]
        omega
      rw [hT.out] at hw8
      clear htk hw6 hw7 hr6 hr7 hal hrz2
      go_wp2
      exact ⟨⟨j + 1, _, by omega, hw8, hr8⟩, hmeas⟩
end Go.Proofs.YtacokkedomjgpaaGreatDoor.Lo

namespace Go.Proofs.YtacokkedomjgpaaGreatDoor.Lo
open Go.RowKit

def outF (F H : Nat → Nat) : Nat → Nat → Nat
  | 0 => F
  | k + 1 => ptF (outF F H k) (8 * k) (H k) 8
theorem sl_8k {k g cap : Nat} (hk : k < 8) (hc : cap = 64) (w : World) : (Instr.sliceAt 31 (.slice (some ⟨g, 0, none⟩) 64 cap) (some (.int .i64 ((k : Int) * 8))) (some (.int .i64 (((k : Int) + 1) * 8))) none).run Tryz.prog w = .ok (.slice (some ⟨g, 8 * k, none⟩) 8 (64 - 8 * k)) w := by
  subst hc
  have h : k = 0 ∨ k = 1 ∨ k = 2 ∨ k = 3 ∨ k = 4 ∨ k = 5 ∨ k = 6 ∨ k = 7 := by omega
  rcases h with rfl | rfl | rfl | rfl | rfl | rfl | rfl | rfl <;> simp [Instr.sliceAt, go_sem]
theorem in8x {H : Nat → Nat} {k : Nat} (hk : k < 8) (w : World) : (Instr.index 93 (.agg #[.int .u64 (H 0 : Nat), .int .u64 (H 1 : Nat), .int .u64 (H 2 : Nat), .int .u64 (H 3 : Nat), .int .u64 (H 4 : Nat), .int .u64 (H 5 : Nat), .int .u64 (H 6 : Nat), .int .u64 (H 7 : Nat)]) (.int .i64 (k : Nat))).run Tryz.prog w = .ok (.int .u64 (H k : Nat)) w := in8 (F := H) hk w
set_option maxHeartbeats 4000000 in
set_option maxRecDepth 100000 in
theorem end_d {H p F : Nat → Nat} {fl ln q g : Nat} {tg : TypeId} {W0 : World} (hg : Gl W0) (hH : ∀ i, H i < B64) (hp : ∀ i, p i < 256) (hfl : fl < 128) (hln : ln < 18446744073709551616) (hq : W0.heap[q]? = some (.cells (dgc H p fl ln) 96 (0, 0))) (ho : W0.heap[g]? = some (.cells (ab 64 F) tg (0, 0))) (hne : g ≠ q) :
    Calls Tryz.prog 60 #[.pointer (some ⟨q, 0, none⟩), .slice (some ⟨g, 0, none⟩) 64 64] W0 fun e w' => e = .returned (.tuple #[]) ∧ w'.heap[g]? = some (.cells (ab 64 (outF F (padS (H, p, fl) ln).1 8)) tg (0, 0)) ∧ Wr2 W0 w' q g := by
  have hpd := pad_d hg hH hp hfl hln hq
  generalize padS (H, p, fl) ln = S at *
  obtain ⟨H1, p1, fl1⟩ := S
  simp only at hpd
  go_enter Tryz.func60, Tryz.ntmps60
  go_wp2_with fail
  refine hpd.mono ?_
  rintro e w1 ⟨rfl, ln', hw1⟩
  clear hpd
  have hr1 := (hw1.block g (Array.getElem?_eq_some_iff.1 ho).1 hne).trans ho
  have c0 : w1.cell? ⟨q, 0, none⟩ = some (.int .i64 64) := dg_cell (i := 0) (by decide) hw1.row
  have d0 : w1.cell? ⟨q, 14, none⟩ = some (.int .u64 (H1 0 : Nat)) := dg_cell (i := 14) (by decide) hw1.row
  have d1 : w1.cell? ⟨q, 15, none⟩ = some (.int .u64 (H1 1 : Nat)) := dg_cell (i := 15) (by decide) hw1.row
  have d2 : w1.cell? ⟨q, 16, none⟩ = some (.int .u64 (H1 2 : Nat)) := dg_cell (i := 16) (by decide) hw1.row
  have d3 : w1.cell? ⟨q, 17, none⟩ = some (.int .u64 (H1 3 : Nat)) := dg_cell (i := 17) (by decide) hw1.row
  have d4 : w1.cell? ⟨q, 18, none⟩ = some (.int .u64 (H1 4 : Nat)) := dg_cell (i := 18) (by decide) hw1.row
  have d5 : w1.cell? ⟨q, 19, none⟩ = some (.int .u64 (H1 5 : Nat)) := dg_cell (i := 19) (by decide) hw1.row
  have d6 : w1.cell? ⟨q, 20, none⟩ = some (.int .u64 (H1 6 : Nat)) := dg_cell (i := 20) (by decide) hw1.row
  have d7 : w1.cell? ⟨q, 21, none⟩ = some (.int .u64 (H1 7 : Nat)) := dg_cell (i := 21) (by decide) hw1.row
  have hW1 : Wr2 W0 w1 q g := Wr2.one hw1
  clear hw1
  go_wp2_with fail
  clear c0 d0 d1 d2 d3 d4 d5 d6 d7
  go_loopw [19] (fun i wr => ∃ k : Nat, k ≤ 8 ∧ i = .int .i64 k ∧ wr.heap[g]? = some (.cells (ab 64 (outF F H1 k)) tg (0, 0)) ∧ Wr2 W0 wr q g) (fun i _ => 8 - (intOf i).toNat)
  case atStart => exact ⟨0, by omega, rfl, hr1, hW1⟩
  case round =>
    clear hr1 hW1
    obtain ⟨k, hk, rfl, hr, hW⟩ := hrel
    by_cases hlt : k < 8
    · have hsl := fun w => sl_8k (g := g) (cap := 64) hlt rfl w
      have hin := fun w => in8x (H := H1) hlt w
      have hput := put_d (N := 64) (off := 8 * k) (cap := 64 - 8 * k) (v0 := H1 k) (by omega) hr
      have hsl2 := fun w => hsl w
      go_wp2_with fail
      refine hput.mono ?_
      rintro e w2 ⟨rfl, hw2⟩
      have hrow := hw2.row
      have hW2 := hW.next hw2
      clear hput hsl hsl2 hin hw2 hW hr
      go_wp2
      exact ⟨⟨k + 1, by omega, by go_num, hrow, hW2⟩, by simp [intOf]; omega⟩
    · obtain rfl : k = 8 := by omega
      go_wp2
      go_end0
      exact ⟨rfl, hr, hW⟩
end Go.Proofs.YtacokkedomjgpaaGreatDoor.Lo

namespace Go.Proofs.YtacokkedomjgpaaGreatDoor.Lo
open Go.RowKit

def allS (s : (Nat → Nat) × (Nat → Nat) × Nat) (L : List Pt) : (Nat → Nat) × (Nat → Nat) × Nat := L.foldl (fun s x => aS s x.2 x.1) s
theorem allS_take {s : (Nat → Nat) × (Nat → Nat) × Nat} {L : List Pt} {k : Nat} (h : k < L.length) : allS s (L.take (k + 1)) = aS (allS s (L.take k)) L[k].2 L[k].1 := by
  unfold allS
  rw [List.take_succ_eq_append_getElem h, List.foldl_append]; rfl
theorem bgF_lt : ∀ i, bgF 8 i < B64 := by
  have h : ∀ k i, bgF k i < B64 := by
    intro k
    induction k with
    | zero => intro _; show 0 < B64; decide
    | succ k ih =>
      intro i
      show updN (bgF k) k (sq k / 2 ^ 0) i < B64
      refine upd_lt ih ?_ i
      have := sq_lt k
      unfold B64
      omega
  exact h 8
theorem allS_ok {L : List Pt} (hL : ∀ x ∈ L, ∀ i, x.2 i < 256) : ∀ {s : (Nat → Nat) × (Nat → Nat) × Nat}, (∀ i, s.1 i < B64) → (∀ i, s.2.1 i < 256) → s.2.2 < 128 → (∀ i, (allS s L).1 i < B64) ∧ (∀ i, (allS s L).2.1 i < 256) ∧ (allS s L).2.2 < 128 := by
  induction L with
  | nil => intro s h1 h2 h3; exact ⟨h1, h2, h3⟩
  | cons x r ih =>
    intro s h1 h2 h3
    exact ih (fun y hy => hL y (by simp [hy])) (aS_H h1 x.1) (aS_p h2 (hL x (by simp)) x.1) (aS_fl h3 x.1)
def s0 : (Nat → Nat) × (Nat → Nat) × Nat := (bgF 8, fun _ => 0, 0)
def longP (L : List Pt) : Nat → Nat := outF (fun _ => 0) (padS (allS s0 L) (lenS L)).1 8
set_option maxHeartbeats 4000000 in
set_option maxRecDepth 100000 in
theorem long_d {L : List Pt} {pa : Option Addr} {pc : Nat} {W0 : World} (hg : Gl W0) (hP : PsAt W0 pa L) (hL : ∀ x ∈ L, ∀ i, x.2 i < 256) (hlen : lenS L ≤ 1099511627776) (hn : L.length ≤ 1000000) :
    Calls Tryz.prog 25 #[.slice pa L.length pc] W0 fun e w' => e = .returned (.agg (ab 64 (longP L))) ∧ Below W0.heap.size W0 w' := by
  have hal : Below W0.heap.size W0 (W0.alloc (.cells (ab 64 fun _ => 0) 29)) := (Below.refl _ _).alloc (Nat.le_refl _) _
  have hr0 := (MapKept.heap_alloc W0 (.cells (ab 64 fun _ => 0) 29)).1
  have hzd : ∀ w : World, (zeroValue 96).run Tryz.prog w = .ok (.agg zdc) w := fun w => by kernel_rfl
  go_enter Tryz.func25, Tryz.ntmps25
  go_upto_region 1 with fail
  refine Eq.mpr (congrArg (fun c => Code.wp _ _ _ _ (W0.alloc (.cells c 29))) (?h : _ = ab 64 (fun _ => 0))) ?_
  case h => kernel_rfl
  generalize W0.alloc (.cells (ab 64 fun _ => 0) 29) = w1 at hal hr0 ⊢
  have hg1 : Gl w1 := ⟨fun i hi => cell_later hal (hg.1 i hi), fun i hi => cell_later hal (hg.2 i hi)⟩
  go_wp2_with fail
  refine (plan_d w1).mono ?_
  rintro e w2 ⟨rfl, hb2⟩
  have hg2 : Gl w2 := ⟨fun i hi => cell_later hb2 (hg1.1 i hi), fun i hi => cell_later hb2 (hg1.2 i hi)⟩
  go_wp2_with fail
  refine (begin_d hg2).mono ?_
  rintro e w3 ⟨rfl, hb3⟩
  go_wp2_with (first
    | (refine wpList_store_row rfl 96 (.tmp 3) (.tmp 8) rfl w3.heap.size (dgc (bgF 8) (fun _ => 0) 0 0) _ 96 rfl rfl (by rw [dgc_size]; kernel_rfl) (MapKept.heap_alloc w3 _).1 (by rw [dgc_size]; exact arr_size _ _) (dgc_one _ _ _ _) rfl ?_)
    | go_in)
  have hb03 : Below W0.heap.size W0 w3 := (hal.trans (hb2.mono hal.size)).trans (hb3.mono (Nat.le_trans hal.size hb2.size))
  have hr3 : w3.heap[W0.heap.size]? = some (.cells (ab 64 fun _ => 0) 29 (0, 0)) := by
    have h1 := (Array.getElem?_eq_some_iff.1 hr0).1
    rw [hb3.block _ (Nat.lt_of_lt_of_le h1 hb2.size), hb2.block _ h1]
    exact hr0
  have hlt3 := (Array.getElem?_eq_some_iff.1 hr3).1
  have hal3 : Below w3.heap.size w3 (w3.alloc (.cells zdc 96)) := (Below.refl _ _).alloc (Nat.le_refl _) _
  have hw4 := wrt_row (c' := dgc (bgF 8) (fun _ => 0) 0 0) (MapKept.heap_alloc w3 (.cells zdc 96)).1
  have hb04 := below_wrt (hb03.trans (hal3.mono hb03.size)) hw4 (by omega) (Nat.le_trans hb03.size hal3.size)
  have hr4 := (hw4.block W0.heap.size (Nat.lt_of_lt_of_le hlt3 hal3.size) (by omega)).trans ((hal3.block _ hlt3).trans hr3)
  have hq4 := hw4.row
  clear hw4 hal3 hr3 hb03 hb3 hb2 hal hr0 hg1 hg2
  generalize (w3.alloc (.cells zdc 96)).setRow w3.heap.size (dgc (bgF 8) (fun _ => 0) 0 0) = w4 at hb04 hr4 hq4 ⊢
  go_loopw [11] (fun i wr => ∃ k : Nat, k ≤ L.length ∧ i = .int .i64 k ∧ wr.heap[w3.heap.size]? = some (.cells (dgc (allS s0 (L.take k)).1 (allS s0 (L.take k)).2.1 (allS s0 (L.take k)).2.2 (lenS (L.take k))) 96 (0, 0)) ∧ wr.heap[W0.heap.size]? = some (.cells (ab 64 fun _ => 0) 29 (0, 0)) ∧ Below W0.heap.size W0 wr) (fun i _ => L.length - (intOf i).toNat)
  case atStart => exact ⟨0, Nat.zero_le _, rfl, hq4, hr4, hb04⟩
  case round =>
    clear hq4 hr4 hb04
    obtain ⟨k, hk, rfl, hq, hr, hb⟩ := hrel
    obtain ⟨o1, o2, o3⟩ := allS_ok (L := L.take k) (fun x hx => hL x (List.mem_of_mem_take hx)) (s := s0) bgF_lt (fun _ => by show 0 < 256; decide) (by show 0 < 128; decide)
    have hgr := gl_b hg hb
    by_cases hlt : k < L.length
    · obtain ⟨pb, off, rfl, hc⟩ := hP (by omega)
      obtain ⟨a, cap, hcl, hbs, hcp, hxl⟩ := hc k hlt
      have hcl := cell_later hb hcl
      have hle := lenS_le L (k + 1)
      have hls := lenS_take hlt
      have hnx := allS_take (s := s0) hlt
      have htk := take_d hgr o1 o2 o3 (hbs.later hb) (fun x ex => by have := hxl x ex; omega) hcp (by omega) hq
      rw [eta3 (allS s0 (L.take k))] at htk
      have hmod : (lenS (L.take k) + L[k].1) % B64 = lenS (L.take k) + L[k].1 := Nat.mod_eq_of_lt (by unfold B64; omega)
      rw [hmod, ← hls, ← hnx] at htk
      replace hls := hide1 hls
      replace hnx := hide1 hnx
      generalize L[k] = pt at *
      clear hc hbs hmod
      go_wp2_with fail
      refine htk.mono ?_
      rintro e w5 ⟨rfl, hw5⟩
      have hq5 := hw5.row
      have hr5 := (hw5.block _ (Array.getElem?_eq_some_iff.1 hr).1 (by omega)).trans hr
      have hb5 := below_wrt hb hw5 (by omega) hb.size
      clear htk hw5 hcl hq hr hb o1 o2 o3 hgr
      go_wp2
      exact ⟨⟨k + 1, by omega, by go_num, hq5, hr5, hb5⟩, by simp [intOf]; omega⟩
    · obtain rfl : k = L.length := by omega
      rw [List.take_length] at hq o1 o2 o3
      have hlp : longP L = outF (fun _ => 0) (padS (allS s0 L) (lenS L)).1 8 := rfl
      replace hlp := hide1 hlp
      have hlr := (Array.getElem?_eq_some_iff.1 hr).1
      have hlq := (Array.getElem?_eq_some_iff.1 hq).1
      have hal : Below wr.heap.size wr (wr.alloc (.cells (ab 64 fun _ => 0) 29)) := (Below.refl _ _).alloc (Nat.le_refl _) _
      have ho5 := (MapKept.heap_alloc wr (.cells (ab 64 fun _ => 0) 29)).1
      clear hP hL hn
      go_upto_region 8 with fail
      refine Eq.mpr (congrArg (fun c => Code.wp _ _ _ _ (wr.alloc (.cells c 29))) (?h : _ = ab 64 (fun _ => 0))) ?_
      case h => kernel_rfl
      have hq5 := (hal.block _ hlq).trans hq
      have hr5 := (hal.block _ hlr).trans hr
      have hb5 : Below W0.heap.size W0 (wr.alloc (.cells (ab 64 fun _ => 0) 29)) := hb.trans (hal.mono hb.size)
      have hs5 := hal.size
      have hg5 := gl_b hgr hal
      clear hal hq hr hb hgr
      generalize wr.alloc (.cells (ab 64 fun _ => 0) 29) = w5 at hq5 hr5 hb5 ho5 hs5 hg5 ⊢
      have hen := end_d hg5 o1 o2 o3 (by omega) hq5 ho5 (by omega)
      rw [eta3 (allS s0 L), ← hlp.out] at hen
      go_wp2_with fail
      refine hen.mono ?_
      rintro e w6 ⟨rfl, ho6, hW6⟩
      have hr6 := (hW6.block _ (by omega) (by omega) (by omega)).trans hr5
      have hw7 := wrt_row (c' := ab 64 (longP L)) hr6
      have hfin : Below W0.heap.size W0 (w6.setRow W0.heap.size (ab 64 (longP L))) := by
        have h6 : Below W0.heap.size W0 w6 := ⟨hW6.os.trans hb5.os, hW6.tape.trans hb5.tape, hW6.output.trans hb5.output, Nat.le_trans hb5.size hW6.size, fun i hi => (hW6.block i (by omega) (by omega) (by omega)).trans (hb5.block i hi)⟩
        exact below_wrt h6 hw7 (Nat.le_refl _) h6.size
      have hrw := hw7.row
      clear hen hW6 hw7 hq5 hr5 hb5 ho5 hg5 o1 o2 o3 hlp
      generalize hF : longP L = F at *
      replace hF := hide1 hF
      have i29 : (Tryz.prog.info? 29).map (·.size) = some (ab 64 F).size := by rw [ab_size]; kernel_rfl
      have z29 : (ab 64 fun _ => 0).size = (ab 64 F).size := by rw [ab_size, ab_size]
      have o29 := ab_one 64 F
      go_upto_region 9 with fail
      go_wp2_with (first
        | (refine wpList_load_row rfl 29 (.tmp 6) rfl wr.heap.size (ab 64 F) 29 rfl Tryz.underlying29 i29 ho6 ?_)
        | (refine wpList_store_row rfl 29 (.tmp 2) (.tmp 20) rfl W0.heap.size (ab 64 F) (ab 64 fun _ => 0) 29 rfl rfl i29 hr6 z29 o29 rfl ?_))
      exact bodyPost_ret (v := .agg (ab 64 F)) (results_row rfl _ rfl Tryz.underlying29 i29 hrw) rfl ⟨by rw [hF.out], hfin⟩
end Go.Proofs.YtacokkedomjgpaaGreatDoor.Lo

namespace Go.Proofs.YtacokkedomjgpaaGreatDoor
open Go.RowKit
theorem an7 {x u : Operand} {m : Nat} (h : m < 256) (w : World) : (do eqGuard .andNot 5 x u (.int .u8 (m : Nat)) (.int .u8 (7 : Nat)); binOp .andNot 5 (.int .u8 (m : Nat)) (.int .u8 (7 : Nat))).run Tryz.prog w = .ok (.int .u8 (m / 8 * 8 : Nat)) w := by
  have e : ∀ m : Fin 256, bits .andNot .u8 ((m.val : Nat) : Int) 7 = ((m.val / 8 * 8 : Nat) : Int) := by decide +kernel
  have e := e ⟨m, h⟩
  simp only at e
  simp [eqGuard, binOp, go_sem, e]
theorem an128 {x u : Operand} {m : Nat} (h : m < 256) (w : World) : (do eqGuard .andNot 5 x u (.int .u8 (m : Nat)) (.int .u8 (128 : Nat)); binOp .andNot 5 (.int .u8 (m : Nat)) (.int .u8 (128 : Nat))).run Tryz.prog w = .ok (.int .u8 (m % 128 : Nat)) w := by
  have e : ∀ m : Fin 256, bits .andNot .u8 ((m.val : Nat) : Int) 128 = ((m.val % 128 : Nat) : Int) := by decide +kernel
  have e := e ⟨m, h⟩
  simp only at e
  simp [eqGuard, binOp, go_sem, e]
theorem or64 {x u : Operand} {m : Nat} (h : m < 128) (w : World) : (do eqGuard .or 5 x u (.int .u8 (m : Nat)) (.int .u8 (64 : Nat)); binOp .or 5 (.int .u8 (m : Nat)) (.int .u8 (64 : Nat))).run Tryz.prog w = .ok (.int .u8 (m % 64 + 64 : Nat)) w := by
  have e : ∀ m : Fin 128, bits .or .u8 ((m.val : Nat) : Int) 64 = ((m.val % 64 + 64 : Nat) : Int) := by decide +kernel
  have e := e ⟨m, h⟩
  simp only at e
  simp [eqGuard, binOp, go_sem, e]
theorem ps_1 {w : World} {g : Nat} {x : Pt} {a : Option Addr} {ca : Nat} {t : TypeId} (h : w.heap[g]? = some (.cells #[.slice a x.1 ca] t (0, 0))) (ha : Bs w a x.1 x.2) (hca : x.1 ≤ ca) (hla : ∀ p, a = some p → p.block < w.heap.size) : PsAt w (some ⟨g, 0, none⟩) [x] := fun _ =>
  ⟨g, 0, rfl, fun i hi => by
    have hc : i = 0 := by simp at hi; omega
    subst hc
    exact ⟨a, ca, by rw [cell_of_row _ _ _ _ _ _ h]; rfl, ha, hca, hla⟩⟩
end Go.Proofs.YtacokkedomjgpaaGreatDoor

namespace Go.Proofs.YtacokkedomjgpaaGreatDoor
open Go.RowKit

abbrev wv (a b c d : Nat) : Value := .agg #[.int .u64 a, .int .u64 b, .int .u64 c, .int .u64 d]
def num (a b c d : Nat) : Nat := a + 18446744073709551616 * b + 340282366920938463463374607431768211456 * c + 6277101735386680763835789423207666416102355444464034512896 * d

theorem andLow (a : Nat) (ha : a < 18446744073709551616) : bits .and .u64 (a : Int) 9223372036854775807 = ((a % 9223372036854775808 : Nat) : Int) := by
  have h := bits_and_u64_nat a 9223372036854775807 ha (by omega)
  have e : a &&& 9223372036854775807 = a % 9223372036854775808 := Nat.and_two_pow_sub_one_eq_mod a 63
  rw [e] at h
  exact h

theorem low_any (a b c d : Nat) (hd : d < 18446744073709551616) (w : World) :
    Calls Tryz.prog 74 #[wv a b c d] w fun e w' => e = .returned (wv a b c (d % 9223372036854775808)) ∧ Below w.heap.size w w' := by
  go_enter Tryz.func74, Tryz.ntmps74
  go_wp2
  rw [andLow d hd]
  exact bodyPost_ret (v := wv a b c (d % 9223372036854775808)) (by simp [results, Tryz.results74, go_sem]) rfl ⟨rfl, below2 _ _ _⟩

theorem more_any (a b c d n : Nat) (ha : a < 18446744073709551616) (hb : b < 18446744073709551616) (hc : c < 18446744073709551616) (hd : d < 18446744073709551616) (hn : n < 18446744073709551616) :
    ∃ x y z t k : Nat, x < 18446744073709551616 ∧ y < 18446744073709551616 ∧ z < 18446744073709551616 ∧ t < 18446744073709551616 ∧ Hid (num x y z t + 115792089237316195423570985008687907853269984665640564039457584007913129639936 * k = num a b c d + n) ∧
    ∀ w, Calls Tryz.prog 97 #[wv a b c d, .int .u64 n] w fun e w' => e = .returned (wv x y z t) ∧ Below w.heap.size w w' := by
  obtain ⟨x, n1, h1, k1, e1, c1⟩ := add64_ex0 a n ha hn
  obtain ⟨y, n2, h2, k2, e2, c2⟩ := add64_ex0 b n1 hb (by omega)
  obtain ⟨z, n3, h3, k3, e3, c3⟩ := add64_ex0 c n2 hc (by omega)
  obtain ⟨t, n4, h4, k4, e4, c4⟩ := add64_ex0 d n3 hd (by omega)
  refine ⟨x, y, z, t, n4, h1, h2, h3, h4, hide1 ?_, fun w => ?_⟩
  · have := e1.out; have := e2.out; have := e3.out; have := e4.out
    unfold num; omega
  go_enter Tryz.func97, Tryz.ntmps97
  go_wp2
  refine wp_loop_rounds 5 ?_
  rw [rounds_succ]; go_wp2
  rw [rounds_succ]; go_wp2
  rw [rounds_succ]; go_wp2
  rw [rounds_succ]; go_wp2
  rw [rounds_succ]; go_wp2
  exact bodyPost_ret (v := wv x y z t) (by simp [results, Tryz.results97, go_sem]) rfl ⟨rfl, below2 _ _ _⟩

set_option maxHeartbeats 1000000 in
theorem with_any (a b c d m p q r s : Nat) (ha : a < 18446744073709551616) (hb : b < 18446744073709551616) (hc : c < 18446744073709551616) (hd : d < 18446744073709551616) (hm : m < 18446744073709551616) (hp : p < 18446744073709551616) (hq : q < 18446744073709551616) (hr : r < 18446744073709551616) (hs : s < 18446744073709551616) :
    ∃ x y z t k : Nat, x < 18446744073709551616 ∧ y < 18446744073709551616 ∧ z < 18446744073709551616 ∧ t < 18446744073709551616 ∧ k < 18446744073709551616 ∧ Hid (num x y z t + 115792089237316195423570985008687907853269984665640564039457584007913129639936 * k = num a b c d + m * num p q r s) ∧
    ∀ w, Calls Tryz.prog 79 #[wv a b c d, .int .u64 m, wv p q r s] w fun e w' => e = .returned (.tuple #[wv x y z t, .int .u64 k]) ∧ Below w.heap.size w w' := by
  obtain ⟨x, n1, h1, k1, e1, c1⟩ := step_ex a m p 0 ha hm hp (by omega)
  obtain ⟨y, n2, h2, k2, e2, c2⟩ := step_ex b m q n1 hb hm hq k1
  obtain ⟨z, n3, h3, k3, e3, c3⟩ := step_ex c m r n2 hc hm hr k2
  obtain ⟨t, n4, h4, k4, e4, c4⟩ := step_ex d m s n3 hd hm hs k3
  refine ⟨x, y, z, t, n4, h1, h2, h3, h4, k4, hide1 ?_, fun w => ?_⟩
  · have := e1.out; have := e2.out; have := e3.out; have := e4.out
    unfold num
    simp only [Nat.mul_add, Nat.mul_left_comm m]
    omega
  have hsd := @set_drewN
  go_enter Tryz.func79, Tryz.ntmps79
  go_wp2
  go_loopw [8, 10] (fun ov i wr => ∃ n : Nat, ((i = .int .i64 0 ∧ ov = .int .u64 0 ∧ wr = (((w.alloc (.cells #[.int .u64 a, .int .u64 b, .int .u64 c, .int .u64 d] 44)).alloc (.cells #[.int .u64 p, .int .u64 q, .int .u64 r, .int .u64 s] 44)).alloc (.cells #[.int .u64 0, .int .u64 0, .int .u64 0, .int .u64 0] 44)).drewN n) ∨ (i = .int .i64 1 ∧ ov = .int .u64 n1 ∧ wr = (((w.alloc (.cells #[.int .u64 x, .int .u64 b, .int .u64 c, .int .u64 d] 44)).alloc (.cells #[.int .u64 p, .int .u64 q, .int .u64 r, .int .u64 s] 44)).alloc (.cells #[.int .u64 0, .int .u64 0, .int .u64 0, .int .u64 0] 44)).drewN n) ∨ (i = .int .i64 2 ∧ ov = .int .u64 n2 ∧ wr = (((w.alloc (.cells #[.int .u64 x, .int .u64 y, .int .u64 c, .int .u64 d] 44)).alloc (.cells #[.int .u64 p, .int .u64 q, .int .u64 r, .int .u64 s] 44)).alloc (.cells #[.int .u64 0, .int .u64 0, .int .u64 0, .int .u64 0] 44)).drewN n) ∨ (i = .int .i64 3 ∧ ov = .int .u64 n3 ∧ wr = (((w.alloc (.cells #[.int .u64 x, .int .u64 y, .int .u64 z, .int .u64 d] 44)).alloc (.cells #[.int .u64 p, .int .u64 q, .int .u64 r, .int .u64 s] 44)).alloc (.cells #[.int .u64 0, .int .u64 0, .int .u64 0, .int .u64 0] 44)).drewN n) ∨ (i = .int .i64 4 ∧ ov = .int .u64 n4 ∧ wr = (((w.alloc (.cells #[.int .u64 x, .int .u64 y, .int .u64 z, .int .u64 t] 44)).alloc (.cells #[.int .u64 p, .int .u64 q, .int .u64 r, .int .u64 s] 44)).alloc (.cells #[.int .u64 0, .int .u64 0, .int .u64 0, .int .u64 0] 44)).drewN n))) (fun _ i _ => 4 - (intOf i).toNat)
  case atStart => exact ⟨0, Or.inl ⟨rfl, rfl, rfl⟩⟩
  case round =>
    obtain ⟨n, ⟨rfl, rfl, rfl⟩ | ⟨rfl, rfl, rfl⟩ | ⟨rfl, rfl, rfl⟩ | ⟨rfl, rfl, rfl⟩ | ⟨rfl, rfl, rfl⟩⟩ := hrel
    · go_wp2
      go_region_with (go_at_call 100; refine (c1 _).mono ?_; rintro e w1 ⟨rfl, rfl⟩)
      all_goals go_wp2
      all_goals go_roundw
      all_goals first | (simp [intOf]; done) | exact ⟨n + 1, Or.inr (Or.inl ⟨rfl, rfl, rfl⟩)⟩
    · go_wp2
      go_region_with (go_at_call 100; refine (c2 _).mono ?_; rintro e w1 ⟨rfl, rfl⟩)
      all_goals go_wp2
      all_goals go_roundw
      all_goals first | (simp [intOf]; done) | exact ⟨n + 1, Or.inr (Or.inr (Or.inl ⟨rfl, rfl, rfl⟩))⟩
    · go_wp2
      go_region_with (go_at_call 100; refine (c3 _).mono ?_; rintro e w1 ⟨rfl, rfl⟩)
      all_goals go_wp2
      all_goals go_roundw
      all_goals first | (simp [intOf]; done) | exact ⟨n + 1, Or.inr (Or.inr (Or.inr (Or.inl ⟨rfl, rfl, rfl⟩)))⟩
    · go_wp2
      go_region_with (go_at_call 100; refine (c4 _).mono ?_; rintro e w1 ⟨rfl, rfl⟩)
      all_goals go_wp2
      all_goals go_roundw
      all_goals first | (simp [intOf]; done) | exact ⟨n + 1, Or.inr (Or.inr (Or.inr (Or.inr ⟨rfl, rfl, rfl⟩)))⟩
    · go_wp2
      exact bodyPost_ret (v := .tuple #[wv x y z t, .int .u64 n4]) (by simp [results, Tryz.results79, go_sem]) rfl ⟨rfl, below_drewN (below3 _ _ _ _) n⟩
end Go.Proofs.YtacokkedomjgpaaGreatDoor

namespace Go.Proofs.YtacokkedomjgpaaGreatDoor
open Go.RowKit

set_option maxHeartbeats 1000000 in
theorem less_any (a b c d p q r s : Nat) (ha : a < 18446744073709551616) (hb : b < 18446744073709551616) (hc : c < 18446744073709551616) (hd : d < 18446744073709551616) (hp : p < 18446744073709551616) (hq : q < 18446744073709551616) (hr : r < 18446744073709551616) (hs : s < 18446744073709551616) :
    ∃ x y z t k : Nat, x < 18446744073709551616 ∧ y < 18446744073709551616 ∧ z < 18446744073709551616 ∧ t < 18446744073709551616 ∧ k ≤ 1 ∧ Hid (num x y z t + num p q r s = num a b c d + 115792089237316195423570985008687907853269984665640564039457584007913129639936 * k) ∧
    ∀ w, Calls Tryz.prog 81 #[wv a b c d, wv p q r s] w fun e w' => e = .returned (wv x y z t) ∧ Below w.heap.size w w' := by
  obtain ⟨x, n1, h1, k1, e1, c1⟩ := sub64_ex a p 0 ha hp (by omega)
  obtain ⟨y, n2, h2, k2, e2, c2⟩ := sub64_ex b q n1 hb hq k1
  obtain ⟨z, n3, h3, k3, e3, c3⟩ := sub64_ex c r n2 hc hr k2
  obtain ⟨t, n4, h4, k4, e4, c4⟩ := sub64_ex d s n3 hd hs k3
  refine ⟨x, y, z, t, n4, h1, h2, h3, h4, k4, hide1 ?_, fun w => ?_⟩
  · have := e1.out; have := e2.out; have := e3.out; have := e4.out
    unfold num; omega
  have hsd := @set_drewN
  have c1' : ∀ (w : World), (callFunc 90 #[.int .u64 a, .int .u64 p, .int .u64 0]).run Tryz.prog w = .ok (.value (.tuple #[.int .u64 x, .int .u64 n1])) w := c1
  clear c1
  go_enter Tryz.func81, Tryz.ntmps81
  go_wp2
  go_loopw [5, 7] (fun ov i wr => ∃ n : Nat, ((i = .int .i64 0 ∧ ov = .int .u64 0 ∧ wr = (((w.alloc (.cells #[.int .u64 a, .int .u64 b, .int .u64 c, .int .u64 d] 44)).alloc (.cells #[.int .u64 p, .int .u64 q, .int .u64 r, .int .u64 s] 44)).alloc (.cells #[.int .u64 0, .int .u64 0, .int .u64 0, .int .u64 0] 44)).drewN n) ∨ (i = .int .i64 1 ∧ ov = .int .u64 n1 ∧ wr = (((w.alloc (.cells #[.int .u64 x, .int .u64 b, .int .u64 c, .int .u64 d] 44)).alloc (.cells #[.int .u64 p, .int .u64 q, .int .u64 r, .int .u64 s] 44)).alloc (.cells #[.int .u64 0, .int .u64 0, .int .u64 0, .int .u64 0] 44)).drewN n) ∨ (i = .int .i64 2 ∧ ov = .int .u64 n2 ∧ wr = (((w.alloc (.cells #[.int .u64 x, .int .u64 y, .int .u64 c, .int .u64 d] 44)).alloc (.cells #[.int .u64 p, .int .u64 q, .int .u64 r, .int .u64 s] 44)).alloc (.cells #[.int .u64 0, .int .u64 0, .int .u64 0, .int .u64 0] 44)).drewN n) ∨ (i = .int .i64 3 ∧ ov = .int .u64 n3 ∧ wr = (((w.alloc (.cells #[.int .u64 x, .int .u64 y, .int .u64 z, .int .u64 d] 44)).alloc (.cells #[.int .u64 p, .int .u64 q, .int .u64 r, .int .u64 s] 44)).alloc (.cells #[.int .u64 0, .int .u64 0, .int .u64 0, .int .u64 0] 44)).drewN n) ∨ (i = .int .i64 4 ∧ ov = .int .u64 n4 ∧ wr = (((w.alloc (.cells #[.int .u64 x, .int .u64 y, .int .u64 z, .int .u64 t] 44)).alloc (.cells #[.int .u64 p, .int .u64 q, .int .u64 r, .int .u64 s] 44)).alloc (.cells #[.int .u64 0, .int .u64 0, .int .u64 0, .int .u64 0] 44)).drewN n))) (fun _ i _ => 4 - (intOf i).toNat)
  case atStart => exact ⟨0, Or.inl ⟨rfl, rfl, rfl⟩⟩
  case round =>
    obtain ⟨n, ⟨rfl, rfl, rfl⟩ | ⟨rfl, rfl, rfl⟩ | ⟨rfl, rfl, rfl⟩ | ⟨rfl, rfl, rfl⟩ | ⟨rfl, rfl, rfl⟩⟩ := hrel
    · go_wp2
      go_region
      all_goals go_wp2
      all_goals go_roundw
      all_goals first | (simp [intOf]; done) | exact ⟨n + 1, Or.inr (Or.inl ⟨rfl, rfl, rfl⟩)⟩
    · go_wp2
      go_region
      all_goals go_wp2
      all_goals go_roundw
      all_goals first | (simp [intOf]; done) | exact ⟨n + 1, Or.inr (Or.inr (Or.inl ⟨rfl, rfl, rfl⟩))⟩
    · go_wp2
      go_region
      all_goals go_wp2
      all_goals go_roundw
      all_goals first | (simp [intOf]; done) | exact ⟨n + 1, Or.inr (Or.inr (Or.inr (Or.inl ⟨rfl, rfl, rfl⟩)))⟩
    · go_wp2
      go_region
      all_goals go_wp2
      all_goals go_roundw
      all_goals first | (simp [intOf]; done) | exact ⟨n + 1, Or.inr (Or.inr (Or.inr (Or.inr ⟨rfl, rfl, rfl⟩)))⟩
    · go_wp2
      exact bodyPost_ret (v := wv x y z t) (by simp [results, Tryz.results81, go_sem]) rfl ⟨rfl, below_drewN (below3 _ _ _ _) n⟩

theorem row_eq {l n p q r s f g h i o0 o1 o2 f' s' t' q' : Nat} (e0 : l + 18446744073709551616 * o0 = f + n * p + 0) (e1 : f' + 18446744073709551616 * o1 = g + n * q + o0)
    (e2 : s' + 18446744073709551616 * o2 = h + n * r + o1) (e3 : t' + 18446744073709551616 * q' = i + n * s + o2) :
    l + 18446744073709551616 * num f' s' t' q' = num f g h i + n * num p q r s := by
  unfold num
  simp only [Nat.mul_add, Nat.mul_left_comm n]
  omega

set_option maxHeartbeats 8000000 in
theorem times_any (a b c d p q r s : Nat) (ha : a < 18446744073709551616) (hb : b < 18446744073709551616) (hc : c < 18446744073709551616) (hd : d < 18446744073709551616) (hp : p < 18446744073709551616) (hq : q < 18446744073709551616) (hr : r < 18446744073709551616) (hs : s < 18446744073709551616) :
    ∃ x y z t f g h i : Nat, x < 18446744073709551616 ∧ y < 18446744073709551616 ∧ z < 18446744073709551616 ∧ t < 18446744073709551616 ∧ f < 18446744073709551616 ∧ g < 18446744073709551616 ∧ h < 18446744073709551616 ∧ i < 18446744073709551616 ∧ Hid (num x y z t + 115792089237316195423570985008687907853269984665640564039457584007913129639936 * num f g h i = num a b c d * num p q r s) ∧
    ∀ w, Calls Tryz.prog 98 #[wv a b c d, wv p q r s] w fun e w' => e = .returned (.tuple #[wv x y z t, wv f g h i]) ∧ Below w.heap.size w w' := by
  obtain ⟨l0, o00, bl0, bo00, e00, c00⟩ := step_ex 0 a p 0 (by omega) ha hp (by omega)
  obtain ⟨f0, o01, bf0, bo01, e01, c01⟩ := step_ex 0 a q o00 (by omega) ha hq bo00
  obtain ⟨s0, o02, bs0, bo02, e02, c02⟩ := step_ex 0 a r o01 (by omega) ha hr bo01
  obtain ⟨t0, q0, bt0, bq0, e03, c03⟩ := step_ex 0 a s o02 (by omega) ha hs bo02
  obtain ⟨l1, o10, bl1, bo10, e10, c10⟩ := step_ex f0 b p 0 bf0 hb hp (by omega)
  obtain ⟨f1, o11, bf1, bo11, e11, c11⟩ := step_ex s0 b q o10 bs0 hb hq bo10
  obtain ⟨s1, o12, bs1, bo12, e12, c12⟩ := step_ex t0 b r o11 bt0 hb hr bo11
  obtain ⟨t1, q1, bt1, bq1, e13, c13⟩ := step_ex q0 b s o12 bq0 hb hs bo12
  obtain ⟨l2, o20, bl2, bo20, e20, c20⟩ := step_ex f1 c p 0 bf1 hc hp (by omega)
  obtain ⟨f2, o21, bf2, bo21, e21, c21⟩ := step_ex s1 c q o20 bs1 hc hq bo20
  obtain ⟨s2, o22, bs2, bo22, e22, c22⟩ := step_ex t1 c r o21 bt1 hc hr bo21
  obtain ⟨t2, q2, bt2, bq2, e23, c23⟩ := step_ex q1 c s o22 bq1 hc hs bo22
  obtain ⟨l3, o30, bl3, bo30, e30, c30⟩ := step_ex f2 d p 0 bf2 hd hp (by omega)
  obtain ⟨f3, o31, bf3, bo31, e31, c31⟩ := step_ex s2 d q o30 bs2 hd hq bo30
  obtain ⟨s3, o32, bs3, bo32, e32, c32⟩ := step_ex t2 d r o31 bt2 hd hr bo31
  obtain ⟨t3, q3, bt3, bq3, e33, c33⟩ := step_ex q2 d s o32 bq2 hd hs bo32
  refine ⟨l0, l1, l2, l3, f3, s3, t3, q3, bl0, bl1, bl2, bl3, bf3, bs3, bt3, bq3, hide1 ?_, fun w => ?_⟩
  · have r0 := row_eq (e00).out (e01).out (e02).out (e03).out; have r1 := row_eq (e10).out (e11).out (e12).out (e13).out; have r2 := row_eq (e20).out (e21).out (e22).out (e23).out; have r3 := row_eq (e30).out (e31).out (e32).out (e33).out
    clear e00 e01 e02 e03 e10 e11 e12 e13 e20 e21 e22 e23 e30 e31 e32 e33
    have hz : num 0 0 0 0 = 0 := rfl
    rw [hz] at r0
    generalize num p q r s = V at *
    generalize num f3 s3 t3 q3 = R3 at *
    generalize num f2 s2 t2 q2 = R2 at *
    generalize num f1 s1 t1 q1 = R1 at *
    generalize num f0 s0 t0 q0 = R0 at *
    unfold num
    simp only [Nat.add_mul, Nat.mul_assoc]
    omega
  have i0 : ∀ w : World, (Instr.index 44 (.agg #[.int .u64 a, .int .u64 b, .int .u64 c, .int .u64 d]) (.int .i64 0)).run Tryz.prog w = .ok (.int .u64 a) w := fun _ => by kernel_rfl
  have i1 : ∀ w : World, (Instr.index 44 (.agg #[.int .u64 a, .int .u64 b, .int .u64 c, .int .u64 d]) (.int .i64 1)).run Tryz.prog w = .ok (.int .u64 b) w := fun _ => by kernel_rfl
  have i2 : ∀ w : World, (Instr.index 44 (.agg #[.int .u64 a, .int .u64 b, .int .u64 c, .int .u64 d]) (.int .i64 2)).run Tryz.prog w = .ok (.int .u64 c) w := fun _ => by kernel_rfl
  have i3 : ∀ w : World, (Instr.index 44 (.agg #[.int .u64 a, .int .u64 b, .int .u64 c, .int .u64 d]) (.int .i64 3)).run Tryz.prog w = .ok (.int .u64 d) w := fun _ => by kernel_rfl
  clear e00 e01 e02 e03 e10 e11 e12 e13 e20 e21 e22 e23 e30 e31 e32 e33
  go_enter Tryz.func98, Tryz.ntmps98
  go_wp2
  refine wp_loop_rounds 5 ?_
  rw [rounds_succ]
  go_wp2_with fail
  refine (c00 _).mono ?_
  rintro e w1 ⟨rfl, rfl⟩
  clear c00
  go_wp2_with fail
  refine (c01 _).mono ?_
  rintro e w1 ⟨rfl, rfl⟩
  clear c01
  go_wp2_with fail
  refine (c02 _).mono ?_
  rintro e w1 ⟨rfl, rfl⟩
  clear c02
  go_wp2_with fail
  refine (c03 _).mono ?_
  rintro e w1 ⟨rfl, rfl⟩
  clear c03
  go_wp2_with fail
  rw [rounds_succ]
  go_wp2_with fail
  refine (c10 _).mono ?_
  rintro e w1 ⟨rfl, rfl⟩
  clear c10
  go_wp2_with fail
  refine (c11 _).mono ?_
  rintro e w1 ⟨rfl, rfl⟩
  clear c11
  go_wp2_with fail
  refine (c12 _).mono ?_
  rintro e w1 ⟨rfl, rfl⟩
  clear c12
  go_wp2_with fail
  refine (c13 _).mono ?_
  rintro e w1 ⟨rfl, rfl⟩
  clear c13
  go_wp2_with fail
  rw [rounds_succ]
  go_wp2_with fail
  refine (c20 _).mono ?_
  rintro e w1 ⟨rfl, rfl⟩
  clear c20
  go_wp2_with fail
  refine (c21 _).mono ?_
  rintro e w1 ⟨rfl, rfl⟩
  clear c21
  go_wp2_with fail
  refine (c22 _).mono ?_
  rintro e w1 ⟨rfl, rfl⟩
  clear c22
  go_wp2_with fail
  refine (c23 _).mono ?_
  rintro e w1 ⟨rfl, rfl⟩
  clear c23
  go_wp2_with fail
  rw [rounds_succ]
  go_wp2_with fail
  refine (c30 _).mono ?_
  rintro e w1 ⟨rfl, rfl⟩
  clear c30
  go_wp2_with fail
  refine (c31 _).mono ?_
  rintro e w1 ⟨rfl, rfl⟩
  clear c31
  go_wp2_with fail
  refine (c32 _).mono ?_
  rintro e w1 ⟨rfl, rfl⟩
  clear c32
  go_wp2_with fail
  refine (c33 _).mono ?_
  rintro e w1 ⟨rfl, rfl⟩
  clear c33
  go_wp2_with fail
  rw [rounds_succ]; go_wp2
  exact bodyPost_ret (v := .tuple #[wv l0 l1 l2 l3, wv f3 s3 t3 q3]) (by simp [results, Tryz.results98, go_sem]) rfl ⟨rfl, below4 _ _ _ _ _⟩
end Go.Proofs.YtacokkedomjgpaaGreatDoor

namespace Go.Proofs.YtacokkedomjgpaaGreatDoor
open Go.RowKit

theorem aftc_cell (w : World) (g : Gr) (c : Obj) (b o : Nat) (hb : b < w.heap.size) : ((aft w g).alloc c).cell? ⟨b, o, none⟩ = w.cell? ⟨b, o, none⟩ := by
  simp only [aft_alloc]; exact aft_cell _ _ _ _ hb
theorem aftc_frozen (w : World) (g : Gr) (c : Obj) (b o : Nat) (hb : b < w.heap.size) : ((aft w g).alloc c).frozen? ⟨b, o, none⟩ = w.frozen? ⟨b, o, none⟩ := by
  simp only [aft_alloc]; exact aft_frozen _ _ _ _ hb
theorem aftc_set (w : World) (g : Gr) (c : Obj) (b o : Nat) (v : Value) (hb : b < w.heap.size) : ((aft w g).alloc c).setCell ⟨b, o, none⟩ v = (aft (w.setCell ⟨b, o, none⟩ v) g).alloc c := by
  simp only [aft_alloc]; exact aft_set _ _ _ _ _ hb
theorem aftc_below (w : World) (g : Gr) (c : Obj) : Below w.heap.size w ((aft w g).alloc c) := by
  simp only [aft_alloc]; exact aft_below _ _
theorem aft2_cell (w : World) (g h : Gr) (c : Obj) (b o : Nat) (hb : b < w.heap.size) : (aft ((aft w g).alloc c) h).cell? ⟨b, o, none⟩ = w.cell? ⟨b, o, none⟩ := by
  simp only [aft_alloc, aft_aft]; exact aft_cell _ _ _ _ hb
theorem aft2_frozen (w : World) (g h : Gr) (c : Obj) (b o : Nat) (hb : b < w.heap.size) : (aft ((aft w g).alloc c) h).frozen? ⟨b, o, none⟩ = w.frozen? ⟨b, o, none⟩ := by
  simp only [aft_alloc, aft_aft]; exact aft_frozen _ _ _ _ hb
theorem aft2_set (w : World) (g h : Gr) (c : Obj) (b o : Nat) (v : Value) (hb : b < w.heap.size) : (aft ((aft w g).alloc c) h).setCell ⟨b, o, none⟩ v = aft ((aft (w.setCell ⟨b, o, none⟩ v) g).alloc c) h := by
  simp only [aft_alloc, aft_aft]; exact aft_set _ _ _ _ _ hb
theorem aft2_below (w : World) (g h : Gr) (c : Obj) : Below w.heap.size w (aft ((aft w g).alloc c) h) := by
  simp only [aft_alloc, aft_aft]; exact aft_below _ _
theorem aft3_cell (w : World) (g h : Gr) (c d : Obj) (b o : Nat) (hb : b < w.heap.size) : (aft (((aft w g).alloc c).alloc d) h).cell? ⟨b, o, none⟩ = w.cell? ⟨b, o, none⟩ := by
  simp only [aft_alloc, aft_aft]; exact aft_cell _ _ _ _ hb
theorem aft3_frozen (w : World) (g h : Gr) (c d : Obj) (b o : Nat) (hb : b < w.heap.size) : (aft (((aft w g).alloc c).alloc d) h).frozen? ⟨b, o, none⟩ = w.frozen? ⟨b, o, none⟩ := by
  simp only [aft_alloc, aft_aft]; exact aft_frozen _ _ _ _ hb
theorem aft3_set (w : World) (g h : Gr) (c d : Obj) (b o : Nat) (v : Value) (hb : b < w.heap.size) : (aft (((aft w g).alloc c).alloc d) h).setCell ⟨b, o, none⟩ v = aft (((aft (w.setCell ⟨b, o, none⟩ v) g).alloc c).alloc d) h := by
  simp only [aft_alloc, aft_aft]; exact aft_set _ _ _ _ _ hb
theorem aft3_below (w : World) (g h : Gr) (c d : Obj) : Below w.heap.size w (aft (((aft w g).alloc c).alloc d) h) := by
  simp only [aft_alloc, aft_aft]; exact aft_below _ _
end Go.Proofs.YtacokkedomjgpaaGreatDoor

namespace Go.Proofs.YtacokkedomjgpaaGreatDoor
open Go.RowKit

def pp : Nat := 57896044618658097711785492504343953926634992332820282019728792003956564819949

abbrev el (x : Nat → Nat) : Value := .agg #[.int .u64 (x 0), .int .u64 (x 1), .int .u64 (x 2), .int .u64 (x 3)]
def nm (x : Nat → Nat) : Nat := num (x 0) (x 1) (x 2) (x 3)
def four (a b c d : Nat) : Nat → Nat
  | 0 => a
  | 1 => b
  | 2 => c
  | _ => d
def Ok (x : Nat → Nat) : Prop := (∀ i, x i < 18446744073709551616) ∧ nm x < pp

theorem orTop (n d : Nat) (hn : n < 4294967296) (hd : d < 18446744073709551616) : bits .or .u64 ((n : Int) * 2) ((d : Int) / 9223372036854775808) = ((2 * n + d / 9223372036854775808 : Nat) : Int) := by
  have h := u64_or_nat (n * 2) (d / 9223372036854775808) (by omega) (by omega)
  have e : n * 2 ||| d / 9223372036854775808 = 2 * n + d / 9223372036854775808 := by
    have := Nat.two_pow_add_eq_or_of_lt (i := 1) (b := d / 9223372036854775808) (by omega) n
    rw [Nat.mul_comm n 2, ← this]
  rw [e] at h
  simpa using h

theorem settle_math {a b c d o T S D x y z t k x' y' z' t' k' E : Nat} (ha : a < 18446744073709551616) (hb : b < 18446744073709551616) (hc : c < 18446744073709551616)
    (HT : T = 2 * o + d / 9223372036854775808) (HS : S = 19 * T) (HD : D = d % 9223372036854775808) (hT : T < 8589934592)
    (e1 : num x y z t + 115792089237316195423570985008687907853269984665640564039457584007913129639936 * k = num a b c D + S)
    (e2 : num x' y' z' t' + 115792089237316195423570985008687907853269984665640564039457584007913129639936 * k' = num x y z t + 19)
    (hx : x < 18446744073709551616) (hy : y < 18446744073709551616) (hz : z < 18446744073709551616) (ht : t < 18446744073709551616)
    (hx' : x' < 18446744073709551616) (hy' : y' < 18446744073709551616) (hz' : z' < 18446744073709551616) (ht' : t' < 18446744073709551616) (HE : E = t' % 9223372036854775808) :
    (t' / 9223372036854775808 = 1 → Ok (four x' y' z' E) ∧ nm (four x' y' z' E) = (num a b c d + 115792089237316195423570985008687907853269984665640564039457584007913129639936 * o) % pp) ∧
    (¬ t' / 9223372036854775808 = 1 → Ok (four x y z t) ∧ nm (four x y z t) = (num a b c d + 115792089237316195423570985008687907853269984665640564039457584007913129639936 * o) % pp) := by
  have key : num a b c d + 115792089237316195423570985008687907853269984665640564039457584007913129639936 * o = num x y z t + pp * T := by
    unfold num pp at *
    have hV : k = 0 := by omega
    subst hV
    omega
  rw [key, Nat.add_mul_mod_self_left]
  have hV : num x y z t < 57896044618658097711785492504343953926634992332820282019728792003956564819949 + 163208757248 := by
    unfold num at *
    omega
  have hW : num x' y' z' t' = num x y z t + 19 := by
    have : k' = 0 := by
      clear key e1
      generalize num x y z t = V at *
      omega
    subst this; omega
  constructor
  · intro h
    have hE : num x' y' z' E + 57896044618658097711785492504343953926634992332820282019728792003956564819968 = num x y z t + 19 := by
      rw [← hW]; unfold num; omega
    clear e1 e2 key
    have hlt : num x' y' z' E < pp := by unfold pp; omega
    refine ⟨⟨fun i => ?_, hlt⟩, ?_⟩
    · match i with
      | 0 => exact hx'
      | 1 => exact hy'
      | 2 => exact hz'
      | _ + 3 => show E < _; omega
    · show num x' y' z' E = _
      have : num x y z t = num x' y' z' E + pp := by unfold pp; omega
      rw [this, Nat.add_mod_right, Nat.mod_eq_of_lt hlt]
  · intro h
    have hlt : num x y z t < pp := by
      have h0 : t' < 9223372036854775808 := by omega
      have : num x' y' z' t' < 57896044618658097711785492504343953926634992332820282019728792003956564819968 := by unfold num; omega
      unfold pp; omega
    refine ⟨⟨fun i => ?_, hlt⟩, ?_⟩
    · match i with
      | 0 => exact hx
      | 1 => exact hy
      | 2 => exact hz
      | _ + 3 => exact ht
    · show num x y z t = _
      rw [Nat.mod_eq_of_lt hlt]

set_option maxHeartbeats 1000000 in
theorem settle_any (a b c d o : Nat) (ha : a < 18446744073709551616) (hb : b < 18446744073709551616) (hc : c < 18446744073709551616) (hd : d < 18446744073709551616) (ho : o < 4294967296) :
    ∃ x : Nat → Nat, Ok x ∧ Hid (nm x = (num a b c d + 115792089237316195423570985008687907853269984665640564039457584007913129639936 * o) % pp) ∧
    ∀ w, Calls Tryz.prog 72 #[wv a b c d, .int .u64 o] w fun e w' => e = .returned (el x) ∧ Below w.heap.size w w' := by
  obtain ⟨T, HT⟩ : ∃ T, Hid (T = 2 * o + d / 9223372036854775808) := ⟨_, hide1 rfl⟩
  obtain ⟨S, HS⟩ : ∃ S, Hid (S = 19 * T) := ⟨_, hide1 rfl⟩
  obtain ⟨D, HD⟩ : ∃ D, Hid (D = d % 9223372036854775808) := ⟨_, hide1 rfl⟩
  have hT : T < 8589934592 := by have := HT.out; omega
  have hS : S < 163208757248 := by have := HS.out; omega
  have hD : D < 9223372036854775808 := by have := HD.out; omega
  have hr := orTop o d ho hd
  rw [← HT.out] at hr
  have hm : (19 : Int) * (T : Int) = (S : Int) := by have := HS.out; omega
  obtain ⟨x, y, z, t, k, hx, hy, hz, ht, e1, c1⟩ := more_any a b c D S ha hb hc (by omega) (by omega)
  obtain ⟨x', y', z', t', k', hx', hy', hz', ht', e2, c2⟩ := more_any x y z t 19 hx hy hz ht (by omega)
  obtain ⟨E, HE⟩ : ∃ E, Hid (E = t' % 9223372036854775808) := ⟨_, hide1 rfl⟩
  have c0 := fun w => low_any a b c d hd w
  rw [← HD.out] at c0
  have c3 := fun w => low_any x' y' z' t' ht' w
  rw [← HE.out] at c3
  obtain ⟨m1, m2⟩ := settle_math ha hb hc HT.out HS.out HD.out hT e1.out e2.out hx hy hz ht hx' hy' hz' ht' HE.out
  by_cases htest : t' / 9223372036854775808 = 1
  · refine ⟨four x' y' z' E, (m1 htest).1, hide1 (m1 htest).2, fun w => ?_⟩
    have htest' : (t' : Int) / 9223372036854775808 = 1 := by omega
    clear htest HT HS HD HE e1 e2 m1 m2
    have hA1 := @aft_cell; have hA2 := @aft_frozen; have hA3 := @aft_set; have hA4 := @aft_lt; have hB1 := @aft2_cell; have hB2 := @aft2_frozen; have hB3 := @aft2_set; have hC1 := @aftc_cell; have hC2 := @aftc_frozen; have hC3 := @aftc_set
    go_enter Tryz.func72, Tryz.ntmps72
    go_wp2_with fail
    refine (c0 _).mono ?_
    rintro e w1 ⟨rfl, hb1⟩
    clear c0
    go_wp2_with fail
    refine (c1 _).mono ?_
    rintro e w2 ⟨rfl, hb2⟩
    replace hb1 := bnext hb1 hb2
    clear hb2 c1
    obtain ⟨g1, rfl⟩ := aft_of hb1
    clear hb1
    go_wp2_with fail
    refine (c2 _).mono ?_
    rintro e w3 ⟨rfl, hb3⟩
    clear c2
    obtain ⟨g3, rfl⟩ := aft_of hb3
    clear hb3
    rw [aft_aft]
    generalize (Gr.mk (g1.bl ++ g3.bl) g3.dr) = g
    go_wp2_with fail
    refine (c3 _).mono ?_
    rintro e w4 ⟨rfl, hb4⟩
    clear c3
    obtain ⟨g4, rfl⟩ := aft_of hb4
    clear hb4
    go_wp2_with fail
    exact bodyPost_ret (v := el (four x' y' z' E)) (by simp [results, Tryz.results72, go_sem, hB1, four]) rfl ⟨rfl, bnext (below2 _ _ _) (aft2_below _ _ _ _)⟩
  · refine ⟨four x y z t, (m2 htest).1, hide1 (m2 htest).2, fun w => ?_⟩
    have htest' : ((t' : Int) / 9223372036854775808 == 1) = false := by simp; omega
    clear htest HT HS HD HE e1 e2 m1 m2 c3
    have hA1 := @aft_cell; have hA2 := @aft_frozen; have hA3 := @aft_set; have hA4 := @aft_lt; have hB1 := @aft2_cell; have hB2 := @aft2_frozen; have hB3 := @aft2_set; have hC1 := @aftc_cell; have hC2 := @aftc_frozen; have hC3 := @aftc_set
    go_enter Tryz.func72, Tryz.ntmps72
    go_wp2_with fail
    refine (c0 _).mono ?_
    rintro e w1 ⟨rfl, hb1⟩
    clear c0
    go_wp2_with fail
    refine (c1 _).mono ?_
    rintro e w2 ⟨rfl, hb2⟩
    replace hb1 := bnext hb1 hb2
    clear hb2 c1
    obtain ⟨g1, rfl⟩ := aft_of hb1
    clear hb1
    go_wp2_with fail
    refine (c2 _).mono ?_
    rintro e w3 ⟨rfl, hb3⟩
    clear c2
    obtain ⟨g3, rfl⟩ := aft_of hb3
    clear hb3
    rw [aft_aft]
    generalize (Gr.mk (g1.bl ++ g3.bl) g3.dr) = g
    go_wp2_with fail
    exact bodyPost_ret (v := el (four x y z t)) (by simp [results, Tryz.results72, go_sem, hC1, four]) rfl ⟨rfl, bnext (below2 _ _ _) (aftc_below _ _ _)⟩
end Go.Proofs.YtacokkedomjgpaaGreatDoor

namespace Go.Proofs.YtacokkedomjgpaaGreatDoor
open Go.RowKit

theorem ok_lt {x : Nat → Nat} (h : Ok x) : num (x 0) (x 1) (x 2) (x 3) < pp := h.2

set_option maxHeartbeats 1000000 in
theorem plus_any (x y : Nat → Nat) (hx : Ok x) (hy : Ok y) :
    ∃ z : Nat → Nat, Ok z ∧ Hid (nm z = (nm x + nm y) % pp) ∧
    ∀ w, Calls Tryz.prog 77 #[el x, el y] w fun e w' => e = .returned (el z) ∧ Below w.heap.size w w' := by
  obtain ⟨a, b, c, d, k, ha, hb, hc, hd, hk, e1, c1⟩ := with_any (x 0) (x 1) (x 2) (x 3) 1 (y 0) (y 1) (y 2) (y 3) (hx.1 0) (hx.1 1) (hx.1 2) (hx.1 3) (by omega) (hy.1 0) (hy.1 1) (hy.1 2) (hy.1 3)
  have hk' : k < 4294967296 := by
    have h1 := ok_lt hx; have h2 := ok_lt hy; have := e1.out; unfold pp at *; omega
  obtain ⟨z, hz, e2, c2⟩ := settle_any a b c d k ha hb hc hd hk'
  refine ⟨z, hz, hide1 ?_, fun w => ?_⟩
  · rw [e2.out, e1.out, Nat.one_mul]; rfl
  clear e1 e2 hz
  have hA1 := @aft_cell; have hA2 := @aft_frozen; have hA3 := @aft_set
  go_enter Tryz.func77, Tryz.ntmps77
  go_wp2_with fail
  refine (c1 _).mono ?_
  rintro e w1 ⟨rfl, hb1⟩
  go_wp2_with fail
  refine (c2 _).mono ?_
  rintro e w2 ⟨rfl, hb2⟩
  obtain ⟨g, rfl⟩ := aft_of (bnext hb1 hb2)
  clear hb1 hb2 c1 c2
  go_wp2_with fail
  exact bodyPost_ret (v := el z) (by simp [results, Tryz.results77, go_sem, hA1]) rfl ⟨rfl, bnext (below3 _ _ _ _) (aft_below _ _)⟩

set_option maxHeartbeats 1000000 in
theorem times_el (x y : Nat → Nat) (hx : Ok x) (hy : Ok y) :
    ∃ z : Nat → Nat, Ok z ∧ Hid (nm z = (nm x * nm y) % pp) ∧
    ∀ w, Calls Tryz.prog 75 #[el x, el y] w fun e w' => e = .returned (el z) ∧ Below w.heap.size w w' := by
  obtain ⟨p, q, r, s, p', q', r', s', hp, hq, hr, hs, hp', hq', hr', hs', e0, c0⟩ := times_any (x 0) (x 1) (x 2) (x 3) (y 0) (y 1) (y 2) (y 3) (hx.1 0) (hx.1 1) (hx.1 2) (hx.1 3) (hy.1 0) (hy.1 1) (hy.1 2) (hy.1 3)
  obtain ⟨a, b, c, d, k, ha, hb, hc, hd, hk, e1, c1⟩ := with_any p q r s 38 p' q' r' s' hp hq hr hs (by omega) hp' hq' hr' hs'
  have hk' : k < 4294967296 := by
    have := e1.out; unfold num at this; omega
  obtain ⟨z, hz, e2, c2⟩ := settle_any a b c d k ha hb hc hd hk'
  refine ⟨z, hz, hide1 ?_, fun w => ?_⟩
  · have h0 := e0.out
    have h : num p q r s + 115792089237316195423570985008687907853269984665640564039457584007913129639936 * num p' q' r' s' = num p q r s + 38 * num p' q' r' s' + pp * (2 * num p' q' r' s') := by unfold pp; omega
    rw [e2.out, e1.out]
    show _ = num (x 0) (x 1) (x 2) (x 3) * num (y 0) (y 1) (y 2) (y 3) % pp
    rw [← h0, h, Nat.add_mul_mod_self_left]
  clear e0 e1 e2 hz
  have hA1 := @aft_cell; have hA2 := @aft_frozen; have hA3 := @aft_set
  have hB1 := @aft3_cell; have hB2 := @aft3_frozen; have hB3 := @aft3_set
  go_enter Tryz.func75, Tryz.ntmps75
  go_wp2_with fail
  refine (c0 _).mono ?_
  rintro e w1 ⟨rfl, hb1⟩
  obtain ⟨g, rfl⟩ := aft_of hb1
  clear hb1 c0
  go_wp2_with fail
  refine (c1 _).mono ?_
  rintro e w1 ⟨rfl, hb1⟩
  go_wp2_with fail
  refine (c2 _).mono ?_
  rintro e w2 ⟨rfl, hb2⟩
  obtain ⟨h, rfl⟩ := aft_of (bnext hb1 hb2)
  clear hb1 hb2 c1 c2
  go_wp2_with fail
  exact bodyPost_ret (v := el z) (by simp [results, Tryz.results75, go_sem, hB1]) rfl ⟨rfl, bnext (below3 _ _ _ _) (aft3_below _ _ _ _ _)⟩

theorem prime_any (w : World) : Calls Tryz.prog 80 #[] w fun e w' => e = .returned (wv 18446744073709551597 18446744073709551615 18446744073709551615 9223372036854775807) ∧ Below w.heap.size w w' := by
  go_enter Tryz.func80, Tryz.ntmps80
  go_wp2
  exact bodyPost_ret (v := wv 18446744073709551597 18446744073709551615 18446744073709551615 9223372036854775807) (by simp [results, Tryz.results80, go_sem]) rfl ⟨rfl, below1 _ _⟩

theorem beq_words {x y : Nat → Nat} (hx : ∀ i, x i < 18446744073709551616) (hy : ∀ i, y i < 18446744073709551616) : (nm x = nm y) ↔ (x 0 = y 0 ∧ x 1 = y 1 ∧ x 2 = y 2 ∧ x 3 = y 3) := by
  have a0 := hx 0; have a1 := hx 1; have a2 := hx 2; have a3 := hx 3
  have b0 := hy 0; have b1 := hy 1; have b2 := hy 2; have b3 := hy 3
  unfold nm num
  omega

set_option maxRecDepth 100000 in
theorem eq_words (x y : Nat → Nat) (hx : Ok x) (hy : Ok y) (w : World) : (Op.equalIn 10000 44 (el x) (el y)).run Tryz.prog w = .ok (decide (nm x = nm y)) w := by
  rw [eq_ints (e := 42) (n := 4) (k := .u64) (k' := .u64) Tryz.underlying44 (inf := _) rfl (by kernel_rfl) Tryz.underlying42 (fun _ => by kernel_rfl) _ _ (fun i => (x i : Int)) (fun i => (y i : Int))
    (fun i hi => by match i, hi with
      | 0, _ => rfl
      | 1, _ => rfl
      | 2, _ => rfl
      | 3, _ => rfl) (fun i hi => by match i, hi with
      | 0, _ => rfl
      | 1, _ => rfl
      | 2, _ => rfl
      | 3, _ => rfl) w]
  congr 1
  rw [decide_eq_decide, beq_words hx.1 hy.1]
  constructor
  · intro h
    have a0 := h 0 (by omega); have a1 := h 1 (by omega); have a2 := h 2 (by omega); have a3 := h 3 (by omega)
    omega
  · rintro ⟨a0, a1, a2, a3⟩ i hi
    match i, hi with
    | 0, _ => simp [a0]
    | 1, _ => simp [a1]
    | 2, _ => simp [a2]
    | 3, _ => simp [a3]

theorem is_any (x y : Nat → Nat) (hx : Ok x) (hy : Ok y) (w : World) :
    Calls Tryz.prog 38 #[el x, el y] w fun e w' => e = .returned (.bool (decide (nm x = nm y))) ∧ Below w.heap.size w w' := by
  have hb := eq_words x y hx hy
  go_enter Tryz.func38, Tryz.ntmps38
  go_wp2
  go_ret
  exact ⟨rfl, below2 _ _ _⟩

theorem even_any (x : Nat → Nat) (hx : Ok x) (w : World) :
    Calls Tryz.prog 52 #[el x] w fun e w' => e = .returned (.bool (decide (nm x % 2 = 0))) ∧ Below w.heap.size w w' := by
  have h0 := hx.1 0
  have h1 : (bits BinOp.and IntKind.u64 ((x 0 : Nat) : Int) 1 == 0) = decide (nm x % 2 = 0) := by
    have h := u64_and_nat (x 0) 1 h0 (by omega)
    have h2 : bits BinOp.and IntKind.u64 ((x 0 : Nat) : Int) 1 = ((x 0 % 2 : Nat) : Int) := by
      rw [nat_mask1] at h; exact h
    rw [h2]
    have h3 : nm x % 2 = x 0 % 2 := by unfold nm num; omega
    rw [h3, Bool.eq_iff_iff]; simp; omega
  go_enter Tryz.func52, Tryz.ntmps52
  go_wp2
  go_ret
  exact ⟨rfl, below1 _ _⟩
end Go.Proofs.YtacokkedomjgpaaGreatDoor

namespace Go.Proofs.YtacokkedomjgpaaGreatDoor
open Go.RowKit

set_option maxHeartbeats 2000000 in
theorem minus_any (x y : Nat → Nat) (hx : Ok x) (hy : Ok y) :
    ∃ z : Nat → Nat, Ok z ∧ Hid (nm z = (nm x + (pp - nm y)) % pp) ∧
    ∀ w, Calls Tryz.prog 39 #[el x, el y] w fun e w' => e = .returned (el z) ∧ Below w.heap.size w w' := by
  obtain ⟨p, q, r, s, j, hp, hq, hr, hs, hj, e0, c0⟩ := less_any 18446744073709551597 18446744073709551615 18446744073709551615 9223372036854775807 (y 0) (y 1) (y 2) (y 3) (by omega) (by omega) (by omega) (by omega) (hy.1 0) (hy.1 1) (hy.1 2) (hy.1 3)
  obtain ⟨a, b, c, d, k, ha, hb, hc, hd, hk, e1, c1⟩ := with_any (x 0) (x 1) (x 2) (x 3) 1 p q r s (hx.1 0) (hx.1 1) (hx.1 2) (hx.1 3) (by omega) hp hq hr hs
  have hpr : num 18446744073709551597 18446744073709551615 18446744073709551615 9223372036854775807 = pp := rfl
  have hj0 : num p q r s + nm y = pp := by
    have h1 := ok_lt hy; have := e0.out; rw [hpr] at this
    have hb : num p q r s < 115792089237316195423570985008687907853269984665640564039457584007913129639936 := by unfold num; omega
    unfold nm
    generalize num p q r s = A at *
    generalize num (y 0) (y 1) (y 2) (y 3) = B at *
    unfold pp at *
    omega
  have hk' : k < 4294967296 := by
    have h1 := ok_lt hx; have := e1.out
    generalize num p q r s = A at *
    generalize num (x 0) (x 1) (x 2) (x 3) = B at *
    generalize num a b c d = C at *
    unfold pp at *; omega
  obtain ⟨z, hz, e2, c2⟩ := settle_any a b c d k ha hb hc hd hk'
  refine ⟨z, hz, hide1 ?_, fun w => ?_⟩
  · rw [e2.out, e1.out, Nat.one_mul]
    have : pp - nm y = num p q r s := by omega
    rw [this]; rfl
  clear e0 e1 e2 hz hj0 hpr
  have hA1 := @aft_cell; have hA2 := @aft_frozen; have hA3 := @aft_set; have hA4 := @aft_aft; have hA5 := @aft_drew_in
  go_enter Tryz.func39, Tryz.ntmps39
  go_wp2_with fail
  go_region_with (first
    | (go_at_call 80; refine (prime_any _).mono ?_; rintro e w1 ⟨rfl, hb1⟩; obtain ⟨g1, rfl⟩ := aft_of hb1; clear hb1)
    | (go_at_call 81; refine (c0 _).mono ?_; rintro e w1 ⟨rfl, hb1⟩; obtain ⟨g2, rfl⟩ := aft_of hb1; clear hb1)
    | (go_at_call 79; refine (c1 _).mono ?_; rintro e w1 ⟨rfl, hb1⟩; obtain ⟨g3, rfl⟩ := aft_of hb1; clear hb1)
    | (go_at_call 72; refine (c2 _).mono ?_; rintro e w1 ⟨rfl, hb1⟩; obtain ⟨g4, rfl⟩ := aft_of hb1; clear hb1))
  all_goals go_wp2
  all_goals exact bodyPost_ret (v := el z) (by simp [results, Tryz.results39, go_sem, hA1]) rfl ⟨rfl, bnext (below3 _ _ _ _) (aft_below _ _)⟩
end Go.Proofs.YtacokkedomjgpaaGreatDoor

namespace Go.Proofs.YtacokkedomjgpaaGreatDoor
open Go.RowKit

abbrev cs (x : Nat → Nat) : Array Value := #[.int .u64 (x 0), .int .u64 (x 1), .int .u64 (x 2), .int .u64 (x 3)]

theorem cs_one (x : Nat → Nat) : (cs x).all (·.oneCell') = true := by
  rw [Array.all_eq_true_iff_forall_mem]
  intro v hv
  simp only [cs, List.mem_toArray, List.mem_cons, List.not_mem_nil, or_false] at hv
  rcases hv with rfl | rfl | rfl | rfl <;> rfl

theorem ok_four (m : Nat) (hm : m < 18446744073709551616) : Ok (four m 0 0 0) ∧ nm (four m 0 0 0) = m := by
  refine ⟨⟨fun i => ?_, ?_⟩, ?_⟩
  · match i with
    | 0 => exact hm
    | 1 => show 0 < _; omega
    | 2 => show 0 < _; omega
    | _ + 3 => show 0 < _; omega
  · show num m 0 0 0 < pp; unfold num pp; omega
  · show num m 0 0 0 = m; unfold num; omega

theorem int_pos (m : Nat) (h2 : m < 9223372036854775808) (w : World) :
    Calls Tryz.prog 43 #[.int .i64 (m : Int)] w fun e w' => e = .returned (el (four m 0 0 0)) ∧ Below w.heap.size w w' := by
  have hneg : ¬ ((m : Int)) < 0 := by omega
  have h3 : (m : Int) < 9223372036854775808 := by omega
  go_enter Tryz.func43, Tryz.ntmps43
  go_wp2_with fail
  exact bodyPost_ret (v := el (four m 0 0 0)) (by simp [results, Tryz.results43, go_sem, four]) rfl ⟨rfl, below1 _ _⟩

theorem aft_none (w : World) : aft w ⟨#[], w.drawn⟩ = w := by simp [aft]
theorem world_ext : ∀ a c : World, a.heap = c.heap → a.tape = c.tape → a.drawn = c.drawn → a.os = c.os → a.output = c.output → a = c := by
  rintro ⟨h1, h2, h3, h4, h5⟩ ⟨k1, k2, k3, k4, k5⟩ e1 e2 e3 e4 e5
  simp only at e1 e2 e3 e4 e5
  subst e1 e2 e3 e4 e5
  rfl
theorem setRow_twice {w : World} {b : Nat} {old : Array Value} {t : TypeId} {fr : Nat × Nat} (hrow : w.heap[b]? = some (.cells old t fr)) (c d : Array Value) : (w.setRow b c).setRow b d = w.setRow b d := by
  refine world_ext _ _ ?_ rfl rfl rfl rfl
  apply Array.ext_getElem?
  intro k
  by_cases h : k = b
  · subst h
    rw [setRow_heap _ _ _ _ _ _ (setRow_heap _ _ _ _ _ _ hrow), setRow_heap _ _ _ _ _ _ hrow]
  · rw [setRow_other _ _ _ _ h, setRow_other _ _ _ _ h, setRow_other _ _ _ _ h]

theorem results_agg {P : Program} {fn : Func} {p : Tmp} {ty : TypeId} {u : World} {b : Nat} {c : Array Value} {t0 : TypeId} {d : TypeDesc} (h : fn.results = #[.cell p ty]) (tmps : Array Value) (ht : tmps[p]?.getD undef = .pointer (some ⟨b, 0, none⟩))
    (hu : P.underlying ty = some d) (hd : (match d with | .struct _ | .array _ _ => true | _ => false) = true) (hi : (P.info? ty).map (·.size) = some c.size) (hrow : u.heap[b]? = some (.cells c t0 (0, 0))) : (results fn tmps).run P u = .ok (.agg c) u := by
  have hr := run_loadVar_row (P := P) u b t0 ty c (0, 0) _ hrow hu hd hi
  simp only [results, h]
  simp [ht, asAddr, hr]

theorem pow_step (x k : Nat) : x ^ (2 ^ k) % pp * (x ^ (2 ^ k) % pp) % pp = x ^ (2 ^ (k + 1)) % pp := by
  rw [← Nat.mul_mod, ← Nat.pow_add, Nat.pow_succ, Nat.mul_two]

set_option maxHeartbeats 2000000 in
theorem grow_any (t b : Nat) (ht : t < 1000) (x y : Nat → Nat) (hx : Ok x) (hy : Ok y) (t0 : TypeId) (w : World) (hrow : w.heap[b]? = some (.cells (cs x) t0 (0, 0))) :
    Calls Tryz.prog 110 #[.int .i64 t, el y, .pointer (some ⟨b, 0, none⟩)] w fun e w' => ∃ z : Nat → Nat, Ok z ∧ Hid (nm z = nm x ^ (2 ^ t) * nm y % pp) ∧ e = .returned (el z) ∧ Mod b w w' ∧ w'.heap[b]? = some (.cells (cs z) t0 (0, 0)) := by
  have hlt := row_lt hrow
  have ht2 : (t : Int) < 1000 := by omega
  go_enter Tryz.func110, Tryz.ntmps110
  go_wp2
  go_loopw [7] (fun i wr => ∃ (k : Nat) (z : Nat → Nat) (g : Gr), k ≤ t ∧ i = .int .i64 k ∧ Ok z ∧ Hid (nm z = nm x ^ (2 ^ k) % pp) ∧ wr = aft (((w.setRow b (cs z)).alloc (.cells (cs y) 46)).alloc (.cells #[.int .u64 0, .int .u64 0, .int .u64 0, .int .u64 0] 46)) g) (fun i _ => t - (intOf i).toNat)
  case atStart =>
    refine ⟨0, x, ⟨#[], w.drawn⟩, by omega, rfl, hx, hide1 ?_, ?_⟩
    · rw [Nat.pow_zero, Nat.pow_one, Nat.mod_eq_of_lt hx.2]
    · rw [setRow_self w b _ _ _ hrow]; exact (aft_none _).symm
  case round =>
    obtain ⟨k, z, g, hk, rfl, hz, ez, rfl⟩ := hrel
    have hr1 : (aft (((w.setRow b (cs z)).alloc (.cells (cs y) 46)).alloc (.cells #[.int .u64 0, .int .u64 0, .int .u64 0, .int .u64 0] 46)) g).heap[b]? = some (.cells (cs z) t0 (0, 0)) := row_aft (row_up (row_up (setRow_heap _ _ _ _ _ _ hrow)))
    by_cases hkt : k < t
    · have hkt2 : (k : Int) < (t : Int) := by omega
      obtain ⟨v, hv, ev, cv⟩ := times_el z z hz hz
      go_wp2_with (refine wpList_load_agg rfl 46 (.tmp 2) rfl b _ _ rfl Tryz.underlying46 rfl (by kernel_rfl) hr1 ?_)
      refine (cv _).mono ?_
      rintro e w1 ⟨rfl, hb1⟩
      obtain ⟨g2, rfl⟩ := aft_of hb1
      clear hb1 cv
      rw [aft_aft]
      clear hr1
      generalize (Gr.mk (g.bl ++ g2.bl) g2.dr) = g3
      have hr2 : (aft (((w.setRow b (cs z)).alloc (.cells (cs y) 46)).alloc (.cells #[.int .u64 0, .int .u64 0, .int .u64 0, .int .u64 0] 46)) g3).heap[b]? = some (.cells (cs z) t0 (0, 0)) := row_aft (row_up (row_up (setRow_heap _ _ _ _ _ _ hrow)))
      have hs2 : Hid ((aft (((w.setRow b (cs z)).alloc (.cells (cs y) 46)).alloc (.cells #[.int .u64 0, .int .u64 0, .int .u64 0, .int .u64 0] 46)) g3).setRow b (cs v) = aft (((w.setRow b (cs v)).alloc (.cells (cs y) 46)).alloc (.cells #[.int .u64 0, .int .u64 0, .int .u64 0, .int .u64 0] 46)) g3) := hide1 (by
        rw [setRow_aft _ _ _ _ (by simp; omega), setRow_alloc _ _ _ _ (by simp; omega), setRow_alloc _ _ _ _ (by simp; omega), setRow_twice hrow])
      go_wp2_with (refine wpList_store_row rfl 46 (.tmp 2) (.tmp 11) rfl b (cs v) _ _ rfl rfl (by kernel_rfl) hr2 rfl (cs_one v) hs2.out ?_)
      go_roundw
      case rel => exact ⟨k + 1, v, g3, by omega, by go_num, hv, hide1 (by rw [ev.out, ez.out, pow_step]), rfl⟩
      case measure => simp [intOf]; omega
    · obtain rfl : k = t := by omega
      obtain ⟨v, hv, ev, cv⟩ := times_el z y hz hy
      have hr0 : (aft (((w.setRow b (cs z)).alloc (.cells (cs y) 46)).alloc (.cells #[.int .u64 0, .int .u64 0, .int .u64 0, .int .u64 0] 46)) g).heap[w.heap.size]? = some (.cells (cs y) 46 (0, 0)) := by
        have := row_aft (g := g) (row2_0 (w.setRow b (cs z)) (.cells (cs y) 46) (.cells #[.int .u64 0, .int .u64 0, .int .u64 0, .int .u64 0] 46))
        rwa [size_setRow] at this
      go_wp2_with (first
        | (refine wpList_load_agg rfl 46 (.tmp 2) rfl b _ _ rfl Tryz.underlying46 rfl (by kernel_rfl) hr1 ?_)
        | (refine wpList_load_agg rfl 46 (.tmp 4) rfl w.heap.size _ _ rfl Tryz.underlying46 rfl (by kernel_rfl) hr0 ?_))
      refine (cv _).mono ?_
      rintro e w1 ⟨rfl, hb1⟩
      obtain ⟨g2, rfl⟩ := aft_of hb1
      clear hb1 cv
      rw [aft_aft]
      clear hr1 hr0
      generalize (Gr.mk (g.bl ++ g2.bl) g2.dr) = g3
      have hr2 : (aft (((w.setRow b (cs z)).alloc (.cells (cs y) 46)).alloc (.cells #[.int .u64 0, .int .u64 0, .int .u64 0, .int .u64 0] 46)) g3).heap[b]? = some (.cells (cs z) t0 (0, 0)) := row_aft (row_up (row_up (setRow_heap _ _ _ _ _ _ hrow)))
      have hs2 : Hid ((aft (((w.setRow b (cs z)).alloc (.cells (cs y) 46)).alloc (.cells #[.int .u64 0, .int .u64 0, .int .u64 0, .int .u64 0] 46)) g3).setRow b (cs v) = aft (((w.setRow b (cs v)).alloc (.cells (cs y) 46)).alloc (.cells #[.int .u64 0, .int .u64 0, .int .u64 0, .int .u64 0] 46)) g3) := hide1 (by
        rw [setRow_aft _ _ _ _ (by simp; omega), setRow_alloc _ _ _ _ (by simp; omega), setRow_alloc _ _ _ _ (by simp; omega), setRow_twice hrow])
      have hr3 : (aft (((w.setRow b (cs v)).alloc (.cells (cs y) 46)).alloc (.cells #[.int .u64 0, .int .u64 0, .int .u64 0, .int .u64 0] 46)) g3).heap[b]? = some (.cells (cs v) t0 (0, 0)) := row_aft (row_up (row_up (setRow_heap _ _ _ _ _ _ hrow)))
      have hr4 : (aft (((w.setRow b (cs v)).alloc (.cells (cs y) 46)).alloc (.cells #[.int .u64 0, .int .u64 0, .int .u64 0, .int .u64 0] 46)) g3).heap[w.heap.size + 1]? = some (.cells #[.int .u64 0, .int .u64 0, .int .u64 0, .int .u64 0] 46 (0, 0)) := by
        have := row_aft (g := g3) (row2_1 (w.setRow b (cs v)) (.cells (cs y) 46) (.cells #[.int .u64 0, .int .u64 0, .int .u64 0, .int .u64 0] 46))
        rwa [size_setRow] at this
      go_wp2_with (first
        | (refine wpList_store_row rfl 46 (.tmp 2) (.tmp 15) rfl b (cs v) _ _ rfl rfl (by kernel_rfl) hr2 rfl (cs_one v) hs2.out ?_)
        | (refine wpList_load_agg rfl 46 (.tmp 2) rfl b _ _ rfl Tryz.underlying46 rfl (by kernel_rfl) hr3 ?_)
        | (refine wpList_store_row rfl 46 (.tmp 5) (.tmp 16) rfl (w.heap.size + 1) (cs v) _ _ rfl rfl (by kernel_rfl) hr4 rfl (cs_one v) rfl ?_))
      have hm : Mod b w ((aft (((w.setRow b (cs v)).alloc (.cells (cs y) 46)).alloc (.cells #[.int .u64 0, .int .u64 0, .int .u64 0, .int .u64 0] 46)) g3).setRow (w.heap.size + 1) (cs v)) := by
        have h1 := (Mod.setRow b w (cs v)).trans (Mod.of_below (b := b) (bnext (below2 (w.setRow b (cs v)) (.cells (cs y) 46) (.cells #[.int .u64 0, .int .u64 0, .int .u64 0, .int .u64 0] 46)) (aft_below _ g3)))
        refine ⟨h1.os, h1.tape, h1.output, by simpa using h1.size, fun p hp hpb => ?_⟩
        rw [setRow_other _ _ _ _ (by omega)]
        exact h1.row p hp hpb
      exact bodyPost_ret (v := el v) (results_agg rfl _ rfl Tryz.underlying46 rfl (by kernel_rfl) (setRow_heap _ _ _ _ _ _ hr4)) rfl ⟨v, hv, hide1 (by rw [ev.out, ez.out, Nat.mod_mul_mod]), rfl, hm, by rw [setRow_other _ _ _ _ (by omega)]; exact hr3⟩
end Go.Proofs.YtacokkedomjgpaaGreatDoor

namespace Go.Proofs.YtacokkedomjgpaaGreatDoor
open Go.RowKit

theorem make_fn (fn : Fn) (first cap : Array Value) (w : World) : (Instr.makeFunc fn first cap).run Tryz.prog w = .ok (.func fn first cap) w := rfl

theorem first_any (x : Nat → Nat) (w : World) :
    Calls Tryz.prog 107 #[el x] w fun e w' => ∃ b : Nat, e = .returned (.func (.func 110) #[] #[.pointer (some ⟨b, 0, none⟩)]) ∧ Hid (b = w.heap.size + 1) ∧ Below w.heap.size w w' ∧ w'.heap[b]? = some (.cells (cs x) 46 (0, 0)) := by
  have hmf := make_fn
  go_enter Tryz.func107, Tryz.ntmps107
  go_wp2
  go_ret
  exact ⟨_, rfl, hide1 rfl, below2 _ _ _, row2_1 _ _ _⟩

theorem pw_step {X a y e f t z : Nat} (ha : a = X ^ e % pp) (hy : y = X ^ f % pp) (hz : z = a ^ (2 ^ t) * y % pp) : z = X ^ (e * 2 ^ t + f) % pp := by
  rw [hz, ha, hy, Nat.pow_add, Nat.pow_mul, Nat.mul_mod_mod, Nat.mul_mod, ← Nat.pow_mod, ← Nat.mul_mod]

theorem below_mod {w u v : World} {b : Nat} (h : Below w.heap.size w u) (m : Mod b u v) (hb : w.heap.size ≤ b) : Below w.heap.size w v :=
  ((Mod.of_below (b := b) h).trans m).below hb
theorem below_up {w u : World} (h : Below w.heap.size w u) (o : Obj) : Below w.heap.size w (u.alloc o) := bnext h (below1 u o)

set_option maxHeartbeats 4000000 in
theorem ones_any (x : Nat → Nat) (hx : Ok x) (w : World) :
    Calls Tryz.prog 101 #[el x] w fun e w' => ∃ (z : Nat → Nat) (E b : Nat), Ok z ∧ Hid (E = 1809251394333065553493296640760748560207343510400633813116524750123642650623) ∧ Hid (nm z = nm x ^ E % pp) ∧ e = .returned (.func (.func 110) #[] #[.pointer (some ⟨b, 0, none⟩)]) ∧ w.heap.size ≤ b ∧ Below w.heap.size w w' ∧ w'.heap[b]? = some (.cells (cs z) 46 (0, 0)) := by
  obtain ⟨X, HX⟩ : ∃ X, Hid (nm x = X) := ⟨_, hide1 rfl⟩
  rw [HX.out]
  obtain ⟨ea, hea⟩ : ∃ ea, Hid (ea = 1) := ⟨_, hide1 rfl⟩
  have qa : Hid (nm x = X ^ ea % pp) := hide1 (by rw [hea.out, Nat.pow_one, ← HX.out, Nat.mod_eq_of_lt hx.2])
  go_enter Tryz.func101, Tryz.ntmps101
  have ra := row1_0 w (.cells (cs x) 46)
  go_wp2_with fail
  refine (first_any x _).mono ?_
  rintro e u0 ⟨b, rfl, hb, hb0, rb0⟩
  replace ra := row_below ra hb0
  have hw0 : Below w.heap.size w u0 := bnext (below1 _ _) hb0
  clear hb0
  have na : w.heap.size ≠ b := by have := hb.out; simp at this; omega
  have hbw : w.heap.size ≤ b := by have := hb.out; simp at this; omega
  clear hb
  go_wp2_with (refine wpList_load_agg rfl 46 (.tmp 1) rfl w.heap.size _ _ rfl Tryz.underlying46 rfl (by kernel_rfl) ra ?_)
  refine (grow_any 1 b (by omega) x x hx hx _ _ rb0).mono ?_
  rintro e u1 ⟨z1, ok1, s1, rfl, m1, rb1⟩
  replace ra := row_mod ra m1 na
  have hw1 := below_mod hw0 m1 hbw
  obtain ⟨e1, he1⟩ : ∃ e1, Hid (e1 = ea * 2 ^ 1 + ea) := ⟨_, hide1 rfl⟩
  have q1 : Hid (nm z1 = X ^ e1 % pp) := hide1 (by rw [he1.out]; exact pw_step qa.out qa.out s1.out)
  clear m1 s1 rb0 hw0
  have ntwo : u1.heap.size ≠ b := by have := row_lt rb1; omega
  replace ra := row_up (o := .cells (cs z1) 46) ra
  replace rb1 := row_up (o := .cells (cs z1) 46) rb1
  have rtwo := row_new u1 (.cells (cs z1) 46)
  replace hw1 := below_up hw1 (.cells (cs z1) 46)
  go_wp2_with (refine wpList_load_agg rfl 46 (.tmp 4) rfl u1.heap.size _ _ rfl Tryz.underlying46 rfl (by kernel_rfl) rtwo ?_)
  refine (grow_any 2 b (by omega) z1 z1 ok1 ok1 _ _ rb1).mono ?_
  rintro e u2 ⟨z2, ok2, s2, rfl, m2, rb2⟩
  replace ra := row_mod ra m2 na
  replace rtwo := row_mod rtwo m2 ntwo
  have hw2 := below_mod hw1 m2 hbw
  obtain ⟨e2, he2⟩ : ∃ e2, Hid (e2 = e1 * 2 ^ 2 + e1) := ⟨_, hide1 rfl⟩
  have q2 : Hid (nm z2 = X ^ e2 % pp) := hide1 (by rw [he2.out]; exact pw_step q1.out q1.out s2.out)
  clear m2 s2 rb1 hw1
  go_wp2_with (refine wpList_load_agg rfl 46 (.tmp 1) rfl w.heap.size _ _ rfl Tryz.underlying46 rfl (by kernel_rfl) ra ?_)
  refine (grow_any 1 b (by omega) z2 x ok2 hx _ _ rb2).mono ?_
  rintro e u3 ⟨z3, ok3, s3, rfl, m3, rb3⟩
  replace ra := row_mod ra m3 na
  replace rtwo := row_mod rtwo m3 ntwo
  have hw3 := below_mod hw2 m3 hbw
  obtain ⟨e3, he3⟩ : ∃ e3, Hid (e3 = e2 * 2 ^ 1 + ea) := ⟨_, hide1 rfl⟩
  have q3 : Hid (nm z3 = X ^ e3 % pp) := hide1 (by rw [he3.out]; exact pw_step q2.out qa.out s3.out)
  clear m3 s3 rb2 hw2
  have nfive : u3.heap.size ≠ b := by have := row_lt rb3; omega
  replace ra := row_up (o := .cells (cs z3) 46) ra
  replace rtwo := row_up (o := .cells (cs z3) 46) rtwo
  replace rb3 := row_up (o := .cells (cs z3) 46) rb3
  have rfive := row_new u3 (.cells (cs z3) 46)
  replace hw3 := below_up hw3 (.cells (cs z3) 46)
  go_wp2_with (refine wpList_load_agg rfl 46 (.tmp 5) rfl u3.heap.size _ _ rfl Tryz.underlying46 rfl (by kernel_rfl) rfive ?_)
  refine (grow_any 5 b (by omega) z3 z3 ok3 ok3 _ _ rb3).mono ?_
  rintro e u4 ⟨z4, ok4, s4, rfl, m4, rb4⟩
  replace ra := row_mod ra m4 na
  replace rtwo := row_mod rtwo m4 ntwo
  replace rfive := row_mod rfive m4 nfive
  have hw4 := below_mod hw3 m4 hbw
  obtain ⟨e4, he4⟩ : ∃ e4, Hid (e4 = e3 * 2 ^ 5 + e3) := ⟨_, hide1 rfl⟩
  have q4 : Hid (nm z4 = X ^ e4 % pp) := hide1 (by rw [he4.out]; exact pw_step q3.out q3.out s4.out)
  clear m4 s4 rb3 hw3
  have nten : u4.heap.size ≠ b := by have := row_lt rb4; omega
  replace ra := row_up (o := .cells (cs z4) 46) ra
  replace rtwo := row_up (o := .cells (cs z4) 46) rtwo
  replace rfive := row_up (o := .cells (cs z4) 46) rfive
  replace rb4 := row_up (o := .cells (cs z4) 46) rb4
  have rten := row_new u4 (.cells (cs z4) 46)
  replace hw4 := below_up hw4 (.cells (cs z4) 46)
  go_wp2_with (refine wpList_load_agg rfl 46 (.tmp 6) rfl u4.heap.size _ _ rfl Tryz.underlying46 rfl (by kernel_rfl) rten ?_)
  refine (grow_any 10 b (by omega) z4 z4 ok4 ok4 _ _ rb4).mono ?_
  rintro e u5 ⟨z5, ok5, s5, rfl, m5, rb5⟩
  replace ra := row_mod ra m5 na
  replace rtwo := row_mod rtwo m5 ntwo
  replace rfive := row_mod rfive m5 nfive
  replace rten := row_mod rten m5 nten
  have hw5 := below_mod hw4 m5 hbw
  obtain ⟨e5, he5⟩ : ∃ e5, Hid (e5 = e4 * 2 ^ 10 + e4) := ⟨_, hide1 rfl⟩
  have q5 : Hid (nm z5 = X ^ e5 % pp) := hide1 (by rw [he5.out]; exact pw_step q4.out q4.out s5.out)
  clear m5 s5 rb4 hw4
  have ntwenty : u5.heap.size ≠ b := by have := row_lt rb5; omega
  replace ra := row_up (o := .cells (cs z5) 46) ra
  replace rtwo := row_up (o := .cells (cs z5) 46) rtwo
  replace rfive := row_up (o := .cells (cs z5) 46) rfive
  replace rten := row_up (o := .cells (cs z5) 46) rten
  replace rb5 := row_up (o := .cells (cs z5) 46) rb5
  have rtwenty := row_new u5 (.cells (cs z5) 46)
  replace hw5 := below_up hw5 (.cells (cs z5) 46)
  go_wp2_with (refine wpList_load_agg rfl 46 (.tmp 7) rfl u5.heap.size _ _ rfl Tryz.underlying46 rfl (by kernel_rfl) rtwenty ?_)
  refine (grow_any 20 b (by omega) z5 z5 ok5 ok5 _ _ rb5).mono ?_
  rintro e u6 ⟨z6, ok6, s6, rfl, m6, rb6⟩
  replace ra := row_mod ra m6 na
  replace rtwo := row_mod rtwo m6 ntwo
  replace rfive := row_mod rfive m6 nfive
  replace rten := row_mod rten m6 nten
  replace rtwenty := row_mod rtwenty m6 ntwenty
  have hw6 := below_mod hw5 m6 hbw
  obtain ⟨e6, he6⟩ : ∃ e6, Hid (e6 = e5 * 2 ^ 20 + e5) := ⟨_, hide1 rfl⟩
  have q6 : Hid (nm z6 = X ^ e6 % pp) := hide1 (by rw [he6.out]; exact pw_step q5.out q5.out s6.out)
  clear m6 s6 rb5 hw5
  go_wp2_with (refine wpList_load_agg rfl 46 (.tmp 6) rfl u4.heap.size _ _ rfl Tryz.underlying46 rfl (by kernel_rfl) rten ?_)
  refine (grow_any 10 b (by omega) z6 z4 ok6 ok4 _ _ rb6).mono ?_
  rintro e u7 ⟨z7, ok7, s7, rfl, m7, rb7⟩
  replace ra := row_mod ra m7 na
  replace rtwo := row_mod rtwo m7 ntwo
  replace rfive := row_mod rfive m7 nfive
  replace rten := row_mod rten m7 nten
  replace rtwenty := row_mod rtwenty m7 ntwenty
  have hw7 := below_mod hw6 m7 hbw
  obtain ⟨e7, he7⟩ : ∃ e7, Hid (e7 = e6 * 2 ^ 10 + e4) := ⟨_, hide1 rfl⟩
  have q7 : Hid (nm z7 = X ^ e7 % pp) := hide1 (by rw [he7.out]; exact pw_step q6.out q4.out s7.out)
  clear m7 s7 rb6 hw6
  have nfifty : u7.heap.size ≠ b := by have := row_lt rb7; omega
  replace ra := row_up (o := .cells (cs z7) 46) ra
  replace rtwo := row_up (o := .cells (cs z7) 46) rtwo
  replace rfive := row_up (o := .cells (cs z7) 46) rfive
  replace rten := row_up (o := .cells (cs z7) 46) rten
  replace rtwenty := row_up (o := .cells (cs z7) 46) rtwenty
  replace rb7 := row_up (o := .cells (cs z7) 46) rb7
  have rfifty := row_new u7 (.cells (cs z7) 46)
  replace hw7 := below_up hw7 (.cells (cs z7) 46)
  go_wp2_with (refine wpList_load_agg rfl 46 (.tmp 8) rfl u7.heap.size _ _ rfl Tryz.underlying46 rfl (by kernel_rfl) rfifty ?_)
  refine (grow_any 50 b (by omega) z7 z7 ok7 ok7 _ _ rb7).mono ?_
  rintro e u8 ⟨z8, ok8, s8, rfl, m8, rb8⟩
  replace ra := row_mod ra m8 na
  replace rtwo := row_mod rtwo m8 ntwo
  replace rfive := row_mod rfive m8 nfive
  replace rten := row_mod rten m8 nten
  replace rtwenty := row_mod rtwenty m8 ntwenty
  replace rfifty := row_mod rfifty m8 nfifty
  have hw8 := below_mod hw7 m8 hbw
  obtain ⟨e8, he8⟩ : ∃ e8, Hid (e8 = e7 * 2 ^ 50 + e7) := ⟨_, hide1 rfl⟩
  have q8 : Hid (nm z8 = X ^ e8 % pp) := hide1 (by rw [he8.out]; exact pw_step q7.out q7.out s8.out)
  clear m8 s8 rb7 hw7
  have nhundred : u8.heap.size ≠ b := by have := row_lt rb8; omega
  replace ra := row_up (o := .cells (cs z8) 46) ra
  replace rtwo := row_up (o := .cells (cs z8) 46) rtwo
  replace rfive := row_up (o := .cells (cs z8) 46) rfive
  replace rten := row_up (o := .cells (cs z8) 46) rten
  replace rtwenty := row_up (o := .cells (cs z8) 46) rtwenty
  replace rfifty := row_up (o := .cells (cs z8) 46) rfifty
  replace rb8 := row_up (o := .cells (cs z8) 46) rb8
  have rhundred := row_new u8 (.cells (cs z8) 46)
  replace hw8 := below_up hw8 (.cells (cs z8) 46)
  go_wp2_with (refine wpList_load_agg rfl 46 (.tmp 9) rfl u8.heap.size _ _ rfl Tryz.underlying46 rfl (by kernel_rfl) rhundred ?_)
  refine (grow_any 100 b (by omega) z8 z8 ok8 ok8 _ _ rb8).mono ?_
  rintro e u9 ⟨z9, ok9, s9, rfl, m9, rb9⟩
  replace ra := row_mod ra m9 na
  replace rtwo := row_mod rtwo m9 ntwo
  replace rfive := row_mod rfive m9 nfive
  replace rten := row_mod rten m9 nten
  replace rtwenty := row_mod rtwenty m9 ntwenty
  replace rfifty := row_mod rfifty m9 nfifty
  replace rhundred := row_mod rhundred m9 nhundred
  have hw9 := below_mod hw8 m9 hbw
  obtain ⟨e9, he9⟩ : ∃ e9, Hid (e9 = e8 * 2 ^ 100 + e8) := ⟨_, hide1 rfl⟩
  have q9 : Hid (nm z9 = X ^ e9 % pp) := hide1 (by rw [he9.out]; exact pw_step q8.out q8.out s9.out)
  clear m9 s9 rb8 hw8
  go_wp2_with (refine wpList_load_agg rfl 46 (.tmp 8) rfl u7.heap.size _ _ rfl Tryz.underlying46 rfl (by kernel_rfl) rfifty ?_)
  refine (grow_any 50 b (by omega) z9 z7 ok9 ok7 _ _ rb9).mono ?_
  rintro e u10 ⟨z10, ok10, s10, rfl, m10, rb10⟩
  replace ra := row_mod ra m10 na
  replace rtwo := row_mod rtwo m10 ntwo
  replace rfive := row_mod rfive m10 nfive
  replace rten := row_mod rten m10 nten
  replace rtwenty := row_mod rtwenty m10 ntwenty
  replace rfifty := row_mod rfifty m10 nfifty
  replace rhundred := row_mod rhundred m10 nhundred
  have hw10 := below_mod hw9 m10 hbw
  obtain ⟨e10, he10⟩ : ∃ e10, Hid (e10 = e9 * 2 ^ 50 + e7) := ⟨_, hide1 rfl⟩
  have q10 : Hid (nm z10 = X ^ e10 % pp) := hide1 (by rw [he10.out]; exact pw_step q9.out q7.out s10.out)
  clear m10 s10 rb9 hw9
  go_wp2_with fail
  go_ret
  refine ⟨z10, e10, b, ok10, hide1 ?_, q10, rfl, hbw, hw10, rb10⟩
  have h0 := hea.out
  have h1 := he1.out
  have h2 := he2.out
  have h3 := he3.out
  have h4 := he4.out
  have h5 := he5.out
  have h6 := he6.out
  have h7 := he7.out
  have h8 := he8.out
  have h9 := he9.out
  have h10 := he10.out
  clear q1 ok1 q2 ok2 q3 ok3 q4 ok4 q5 ok5 q6 ok6 q7 ok7 q8 ok8 q9 ok9 q10 ok10 ra rtwo rfive rten rtwenty rfifty rhundred hx qa
  simp only [Nat.reducePow] at h1 h2 h3 h4 h5 h6 h7 h8 h9 h10
  omega
end Go.Proofs.YtacokkedomjgpaaGreatDoor

/- Ros, O21, O22, LA1, LA2, LA3, LA4: laid together. -/
import Derived.Deep.MidRow
import Derived.Test.YtgnmnoadfjdjdaaDoorG3
namespace Go.Proofs.YtgnmnoadfjdjdaaDoor.Sh
open Go.RowKit
theorem ld_au0 {t0 : TypeId} {n i : Nat} {F : Nat → Nat} (hi : i < n) (w : World) (q : Nat) (h : w.heap[q]? = some (.cells (au n F) t0 (0, 0))) : (Instr.loadAt 102 (.pointer (some ⟨q, 0 + i, none⟩))).run Tryd.prog w = .ok (.int .u64 ((F i : Nat) : Int)) w := by
  rw [Nat.zero_add]; exact ld_au hi w q h
set_option maxHeartbeats 16000000 in
set_option maxRecDepth 100000 in
theorem refShort_r {aa : Option Addr} {len cap : Nat} {f : Nat → Nat} {W0 : World} (hb : Bs W0 aa len f) (hlen : len ≤ 1099511627776) : Calls Tryd.prog 42 #[.slice aa len cap] W0 fun e w' => e = .returned (.agg (ab 32 (oF (bkH (bgF 8) (padF f len) (nP len)) 32))) ∧ Below W0.heap.size W0 w' := by
  refine s_in Tryd.func42 Tryd.ntmps42 rfl [.inl (.slice aa len cap)] ?_
  intro β a h
  refine sym_seq ?_
  refine St.rg h [(2, .inr (0, pt 0))] [(ab 32 (fun _ => 0), 34)] [] [eN 0] ?_ ?_
  · exact oc (k_al 0 alS rfl rfl) <|
    ok_nil
  clear h; intro β a w h
  refine sym_then ?_
  refine sym_seq ?_
  refine St.rg h [(3, .inr (1, pt 0))] [(aw 8 (fun _ => 0), 99)] [] [eN 1] ?_ ?_
  · exact oc (k_al 1 al8 rfl rfl) <|
    ok_nil
  clear h; intro β a w h
  refine sym_then ?_
  refine sym_seq ?_
  refine St.rg h [(23, .inr (2, sl 0 8 8)), (4, .inr (2, sl 0 8 8))] [(au 8 sq, 102)] [] [eN 2] ?_ ?_
  · exact oc (k_cn 65 #[] 2 (sl 0 8 8) (fun w _ => roots_k w) rfl rfl) <|
    oz (k_mp 2 (sl 0 8 8) (.inr rfl) rfl) <|
    ok_nil
  clear h; intro β a w h
  refine sym_then ?_
  refine sym_seq ?_
  refine St.rg h [(24, .inr (3, sl 0 80 80)), (5, .inr (3, sl 0 80 80))] [(au 80 cu, 102)] [] [eN 3] ?_ ?_
  · exact oc (k_cn 66 #[] 3 (sl 0 80 80) (fun w _ => table_k w) rfl rfl) <|
    oz (k_mp 3 (sl 0 80 80) (.inr rfl) rfl) <|
    ok_nil
  clear h; intro β a w h
  refine sym_then ?_
  refine sym_seq ?_
  refine sym_seq ?_
  refine St.r0 h [(6, .inl (.int .i64 ((0 : Nat) : Int)))] [] ?_ ?_
  · exact oz (k_mv (.inr rfl) rfl) <|
    ok_nil
  clear h; intro β a w h
  refine sym_then ?_
  refine blk_in ?_
  replace h := St.sm h 1 (aw 8 (bgF 0)) (c := aw 8 (fun _ => 0)) (t := 99) rfl
  obtain ⟨x, h⟩ := St.jn (n := 226) h [0, 2, 3, 4, 5, 6] [.inl (.slice aa len cap), .inr (0, pt 0), .inr (1, pt 0), .inr (2, sl 0 8 8), .inr (3, sl 0 80 80), .inl (.int .i64 ((0 : Nat) : Int))] [(ab 32 (fun _ => 0), 34), (aw 8 (bgF 0), 99), (au 8 sq, 102), (au 80 cu, 102)] (by kernel_rfl) (by kernel_rfl) (by kernel_rfl)
  refine loop_up 8 (fun i0 a w => ∃ (x : Nat → SV) (β : Nat → Nat), St (wd W0) (ov (jk 226 x) ([0, 2, 3, 4, 5, 6].zip [.inl (.slice aa len cap), .inr (0, pt 0), .inr (1, pt 0), .inr (2, sl 0 8 8), .inr (3, sl 0 80 80), .inl (.int .i64 ((i0 : Nat) : Int))])) [(ab 32 (fun _ => 0), 34), (aw 8 (bgF i0), 99), (au 8 sq, 102), (au 80 cu, 102)] β a w) ⟨x, _, h⟩ ?_
  clear h; rintro i0 a w hki0 ⟨x, β, h⟩
  rcases Nat.lt_or_ge i0 8 with hlti0 | hgei0
  · refine sym_seq ?_
    refine sym_seq ?_
    refine St.r0 h [(25, .inl (.int .i64 ((i0 : Nat) : Int))), (26, .inl (.bool true))] [] ?_ ?_
    · exact oz (k_mv (.inl rfl) rfl) <|
      oz (k_bi (.int .i64 ((i0 : Nat) : Int)) (.int .i64 ((8 : Nat) : Int)) (.bool true) (lt_i (m := ((i0 : Nat) : Int)) (n := ((8 : Nat) : Int)) (decide_eq_true (by omega))) rfl rfl) <|
      ok_nil
    clear h; intro β a w h
    refine sym_then ?_
    refine s_ct h ?_
    refine wp_skip ?_
    refine sym_then ?_
    refine sym_seq ?_
    refine blk_in ?_
    refine St.rg h [(29, .inl (.int .i64 ((i0 : Nat) : Int))), (30, .inr (2, sl 0 8 8)), (31, .inl (.int .i64 ((i0 : Nat) : Int))), (32, .inr (2, pt (0 + i0))), (33, .inl (.int .u64 (((sq i0) : Nat) : Int))), (34, .inl (.int .u64 ((((sq i0) / 2 ^ 32) : Nat) : Int))), (35, .inl (.int .u32 ((((sq i0) / 2 ^ 32) : Nat) : Int))), (36, .inr (1, pt i0))] [] [(1, aw 8 (updN (bgF i0) i0 ((sq i0) / 2 ^ 32)))] [nn, nn, nn, nn, eR 2, nn, nn, nn, eS 1] ?_ ?_
    · exact oc (k_mv (.inl rfl) rfl) <|
      oc (k_mp 2 (sl 0 8 8) (.inl rfl) rfl) <|
      oc (k_mv (.inl rfl) rfl) <|
      oc (k_ib 2 ((0 + i0)) (sl 0 8 8) (.int .i64 ((i0 : Nat) : Int)) (ix_pq (i := i0) (by omega)) rfl rfl) <|
      oc (k_ld 2 ((0 + i0)) (.int .u64 (((sq i0) : Nat) : Int)) (c := au 8 sq) (ld_au0 (n := 8) (F := sq) (i := i0) (t0 := 102) (by omega)) rfl rfl) <|
      oc (k_bi (.int .u64 (((sq i0) : Nat) : Int)) (.int .u64 ((32 : Nat) : Int)) (.int .u64 ((((sq i0) / 2 ^ 32) : Nat) : Int)) (sr_qu (m := (sq i0)) (r := 32) (by decide)) rfl rfl) <|
      oc (k_co (.int .u64 ((((sq i0) / 2 ^ 32) : Nat) : Int)) (.int .u32 ((((sq i0) / 2 ^ 32) : Nat) : Int)) (cv_q (n := ((sq i0) / 2 ^ 32)) (sq_hi _)) rfl rfl) <|
      oc (k_ia 1 0 i0 (.int .i64 ((i0 : Nat) : Int)) (ix8h (i := i0) (by omega)) rfl rfl) <|
      oc (k_st 1 i0 (.int .u32 ((((sq i0) / 2 ^ 32) : Nat) : Int)) (c := aw 8 (bgF i0)) (n := aw 8 (updN (bgF i0) i0 ((sq i0) / 2 ^ 32))) (st_aw (n := 8) (F := (bgF i0)) (i := i0) (v := ((sq i0) / 2 ^ 32)) (t0 := 99) (by omega)) rfl rfl) <|
      ok_nil
    clear h; intro β a w h
    refine blk_norm ?_
    refine sym_then ?_
    refine St.r0 h [(27, .inl (.int .i64 ((i0 : Nat) : Int))), (28, .inl (.int .i64 (((i0 + 1) : Nat) : Int))), (6, .inl (.int .i64 (((i0 + 1) : Nat) : Int)))] [eO] ?_ ?_
    · exact oc (k_m0 rfl rfl) <|
      oz (k_bi (.int .i64 ((i0 : Nat) : Int)) (.int .i64 ((1 : Nat) : Int)) (.int .i64 (((i0 + 1) : Nat) : Int)) (ad_i (m := i0) (n := 1) (by omega)) rfl rfl) <|
      oz (k_mv (.inr rfl) rfl) <|
      ok_nil
    clear h; intro β a w h
    replace h := St.sm h 1 (aw 8 (bgF (i0 + 1))) (c := aw 8 (updN (bgF i0) i0 ((sq i0) / 2 ^ 32))) (t := 99) rfl
    obtain ⟨x, h⟩ := St.jn (n := 226) h [0, 2, 3, 4, 5, 6] [.inl (.slice aa len cap), .inr (0, pt 0), .inr (1, pt 0), .inr (2, sl 0 8 8), .inr (3, sl 0 80 80), .inl (.int .i64 (((i0 + 1) : Nat) : Int))] [(ab 32 (fun _ => 0), 34), (aw 8 (bgF (i0 + 1)), 99), (au 8 sq, 102), (au 80 cu, 102)] (by kernel_rfl) (by kernel_rfl) (by kernel_rfl)
    exact ⟨hlti0, x, _, h⟩
  · obtain rfl : 8 = i0 := by omega
    refine sym_seq ?_
    refine sym_seq ?_
    refine St.r0 h [(25, .inl (.int .i64 ((8 : Nat) : Int))), (26, .inl (.bool false))] [] ?_ ?_
    · exact oz (k_mv (.inl rfl) rfl) <|
      oz (k_bi (.int .i64 ((8 : Nat) : Int)) (.int .i64 ((8 : Nat) : Int)) (.bool false) (lt_i (m := ((8 : Nat) : Int)) (n := ((8 : Nat) : Int)) (decide_eq_false (by omega))) rfl rfl) <|
      ok_nil
    clear h; intro β a w h
    refine sym_then ?_
    refine s_cf h ?_
    refine wp_exit ?_
    refine then_exit ?_
    refine then_exit ?_
    refine blk_exit ?_
    refine sym_then ?_
    refine sym_seq ?_
    refine reg_c3 h (.slice aa len cap) 5 (fun c l _ => l = 64 * nP len ∧ ∀ i, i < 64 * nP len → c[i]? = some (.int .u8 ((padF f len i : Nat) : Int))) (padded_r (cap := cap) (hb.later h.bel.below) hlen) ?_ rfl rfl rfl rfl rfl rfl rfl rfl rfl (hxs := fun a' e => by simp only [List.map_toArray, List.map_cons, List.map_nil, e]; rfl)
    clear h; rintro c M pc β a w ⟨hM, hc⟩ h
    have hPF := padF_lt hb.1 len
    have hMl : M ≤ 1099511628288 := by have := nP_e len; have : zN len < 64 := Nat.mod_lt _ (by decide); omega
    rw [← hM] at hc
    generalize padF f len = PF at *; generalize nP len = NP at *
    refine sym_then ?_
    refine sym_seq ?_
    refine sym_seq ?_
    refine St.r0 h [(8, .inl (.int .i64 ((0 : Nat) : Int)))] [] ?_ ?_
    · exact oz (k_mv (.inr rfl) rfl) <|
      ok_nil
    clear h; intro β a w h
    refine sym_then ?_
    refine blk_in ?_
    replace h := St.sm h 1 (aw 8 (bkH (bgF 8) PF 0)) (c := aw 8 (bgF 8)) (t := 99) rfl
    replace h := St.ss h 8 (.int .i64 (((64 * 0) : Nat) : Int)) (v := .int .i64 ((0 : Nat) : Int)) rfl
    obtain ⟨x, h⟩ := St.jn (n := 226) h [0, 2, 3, 4, 5, 6, 7, 8] [.inl (.slice aa len cap), .inr (0, pt 0), .inr (1, pt 0), .inr (2, sl 0 8 8), .inr (3, sl 0 80 80), .inl (.int .i64 ((8 : Nat) : Int)), .inr (4, sl 0 M pc), .inl (.int .i64 (((64 * 0) : Nat) : Int))] [(ab 32 (fun _ => 0), 34), (aw 8 (bkH (bgF 8) PF 0), 99), (au 8 sq, 102), (au 80 cu, 102), (c, 5)] (by kernel_rfl) (by kernel_rfl) (by kernel_rfl)
    refine loop_up NP (fun k a w => ∃ (x : Nat → SV) (β : Nat → Nat), St (wd W0) (ov (jk 226 x) ([0, 2, 3, 4, 5, 6, 7, 8].zip [.inl (.slice aa len cap), .inr (0, pt 0), .inr (1, pt 0), .inr (2, sl 0 8 8), .inr (3, sl 0 80 80), .inl (.int .i64 ((8 : Nat) : Int)), .inr (4, sl 0 M pc), .inl (.int .i64 (((64 * k) : Nat) : Int))])) [(ab 32 (fun _ => 0), 34), (aw 8 (bkH (bgF 8) PF k), 99), (au 8 sq, 102), (au 80 cu, 102), (c, 5)] β a w) ⟨x, _, h⟩ ?_
    clear h; rintro k a w hkk ⟨x, β, h⟩
    have hH : ∀ i, bkH (bgF 8) PF k i < B32 := bkH_lt bgF_lt k
    have hp : ∀ i, pk PF k i < 256 := fun i => hPF _
    rcases Nat.lt_or_ge k NP with hltk | hgek
    · refine sym_seq ?_
      refine sym_seq ?_
      refine St.r0 h [(39, .inl (.int .i64 (((64 * k) : Nat) : Int))), (40, .inr (4, sl 0 M pc)), (41, .inl (.int .i64 ((M : Nat) : Int))), (42, .inl (.bool true))] [] ?_ ?_
      · exact oz (k_mv (.inl rfl) rfl) <|
        oz (k_mp 4 (sl 0 M pc) (.inl rfl) rfl) <|
        oz (k_lb 4 0 M pc rfl rfl (fun w ad => len_b _ w)) <|
        oz (k_bi (.int .i64 (((64 * k) : Nat) : Int)) (.int .i64 ((M : Nat) : Int)) (.bool true) (lt_i (m := (((64 * k) : Nat) : Int)) (n := ((M : Nat) : Int)) (decide_eq_true (by omega))) rfl rfl) <|
        ok_nil
      clear h; intro β a w h
      refine sym_then ?_
      refine s_ct h ?_
      refine wp_skip ?_
      refine sym_then ?_
      refine sym_seq ?_
      refine blk_in ?_
      refine sym_seq ?_
      refine St.rg h [(9, .inr (5, pt 0))] [(aw 64 (fun _ => 0), 104)] [] [eN 5] ?_ ?_
      · exact oc (k_al 5 al64 rfl rfl) <|
        ok_nil
      clear h; intro β a w h
      refine sym_then ?_
      refine sym_seq ?_
      refine sym_seq ?_
      refine St.r0 h [(10, .inl (.int .i64 ((0 : Nat) : Int)))] [] ?_ ?_
      · exact oz (k_mv (.inr rfl) rfl) <|
        ok_nil
      clear h; intro β a w h
      refine sym_then ?_
      refine blk_in ?_
      replace h := St.sm h 5 (aw 64 (rT (pk PF k) 0)) (c := aw 64 (fun _ => 0)) (t := 104) (rT_0 _)
      obtain ⟨x, h⟩ := St.jn (n := 226) h [0, 2, 3, 4, 5, 6, 7, 8, 9, 10] [.inl (.slice aa len cap), .inr (0, pt 0), .inr (1, pt 0), .inr (2, sl 0 8 8), .inr (3, sl 0 80 80), .inl (.int .i64 ((8 : Nat) : Int)), .inr (4, sl 0 M pc), .inl (.int .i64 (((64 * k) : Nat) : Int)), .inr (5, pt 0), .inl (.int .i64 ((0 : Nat) : Int))] [(ab 32 (fun _ => 0), 34), (aw 8 (bkH (bgF 8) PF k), 99), (au 8 sq, 102), (au 80 cu, 102), (c, 5), (aw 64 (rT (pk PF k) 0), 104)] (by kernel_rfl) (by kernel_rfl) (by kernel_rfl)
      refine loop_up 64 (fun t a w => ∃ (x : Nat → SV) (β : Nat → Nat), St (wd W0) (ov (jk 226 x) ([0, 2, 3, 4, 5, 6, 7, 8, 9, 10].zip [.inl (.slice aa len cap), .inr (0, pt 0), .inr (1, pt 0), .inr (2, sl 0 8 8), .inr (3, sl 0 80 80), .inl (.int .i64 ((8 : Nat) : Int)), .inr (4, sl 0 M pc), .inl (.int .i64 (((64 * k) : Nat) : Int)), .inr (5, pt 0), .inl (.int .i64 ((t : Nat) : Int))])) [(ab 32 (fun _ => 0), 34), (aw 8 (bkH (bgF 8) PF k), 99), (au 8 sq, 102), (au 80 cu, 102), (c, 5), (aw 64 (rT (pk PF k) t), 104)] β a w) ⟨x, _, h⟩ ?_
      clear h; rintro t a w hkt ⟨x, β, h⟩
      rcases Nat.lt_or_ge t 64 with hltt | hget
      · rcases Nat.lt_or_ge t 16 with h16 | h16
        · refine sym_seq ?_
          refine sym_seq ?_
          refine St.r0 h [(45, .inl (.int .i64 ((t : Nat) : Int))), (46, .inl (.bool true))] [] ?_ ?_
          · exact oz (k_mv (.inl rfl) rfl) <|
            oz (k_bi (.int .i64 ((t : Nat) : Int)) (.int .i64 ((64 : Nat) : Int)) (.bool true) (lt_i (m := ((t : Nat) : Int)) (n := ((64 : Nat) : Int)) (decide_eq_true (by omega))) rfl rfl) <|
            ok_nil
          clear h; intro β a w h
          refine sym_then ?_
          refine s_ct h ?_
          refine wp_skip ?_
          refine sym_then ?_
          refine sym_seq ?_
          refine blk_in ?_
          refine sym_seq ?_
          refine sym_seq ?_
          refine St.r0 h [(49, .inl (.int .i64 ((t : Nat) : Int))), (50, .inl (.bool true))] [] ?_ ?_
          · exact oz (k_mv (.inl rfl) rfl) <|
            oz (k_bi (.int .i64 ((t : Nat) : Int)) (.int .i64 ((16 : Nat) : Int)) (.bool true) (lt_i (m := ((t : Nat) : Int)) (n := ((16 : Nat) : Int)) (decide_eq_true (by omega))) rfl rfl) <|
            ok_nil
          clear h; intro β a w h
          refine sym_then ?_
          refine s_ct h ?_
          refine sym_seq ?_
          refine sym_seq ?_
          refine St.r0 h [(11, .inl (.int .i64 ((0 : Nat) : Int)))] [] ?_ ?_
          · exact oz (k_mv (.inr rfl) rfl) <|
            ok_nil
          clear h; intro β a w h
          refine sym_then ?_
          refine blk_in ?_
          replace h := St.sm h 5 (aw 64 (bwF (pk PF k) (r16 (pk PF k) t) t 0)) (c := aw 64 (rT (pk PF k) t)) (t := 104) (rT_z _ h16)
          obtain ⟨x, h⟩ := St.jn (n := 226) h [0, 2, 3, 4, 5, 6, 7, 8, 9, 10, 11] [.inl (.slice aa len cap), .inr (0, pt 0), .inr (1, pt 0), .inr (2, sl 0 8 8), .inr (3, sl 0 80 80), .inl (.int .i64 ((8 : Nat) : Int)), .inr (4, sl 0 M pc), .inl (.int .i64 (((64 * k) : Nat) : Int)), .inr (5, pt 0), .inl (.int .i64 ((t : Nat) : Int)), .inl (.int .i64 ((0 : Nat) : Int))] [(ab 32 (fun _ => 0), 34), (aw 8 (bkH (bgF 8) PF k), 99), (au 8 sq, 102), (au 80 cu, 102), (c, 5), (aw 64 (bwF (pk PF k) (r16 (pk PF k) t) t 0), 104)] (by kernel_rfl) (by kernel_rfl) (by kernel_rfl)
          refine loop_up 4 (fun j a w => ∃ (x : Nat → SV) (β : Nat → Nat), St (wd W0) (ov (jk 226 x) ([0, 2, 3, 4, 5, 6, 7, 8, 9, 10, 11].zip [.inl (.slice aa len cap), .inr (0, pt 0), .inr (1, pt 0), .inr (2, sl 0 8 8), .inr (3, sl 0 80 80), .inl (.int .i64 ((8 : Nat) : Int)), .inr (4, sl 0 M pc), .inl (.int .i64 (((64 * k) : Nat) : Int)), .inr (5, pt 0), .inl (.int .i64 ((t : Nat) : Int)), .inl (.int .i64 ((j : Nat) : Int))])) [(ab 32 (fun _ => 0), 34), (aw 8 (bkH (bgF 8) PF k), 99), (au 8 sq, 102), (au 80 cu, 102), (c, 5), (aw 64 (bwF (pk PF k) (r16 (pk PF k) t) t j), 104)] β a w) ⟨x, _, h⟩ ?_
          clear h; rintro j a w hkj ⟨x, β, h⟩
          rcases Nat.lt_or_ge j 4 with hltj | hgej
          · refine sym_seq ?_
            refine sym_seq ?_
            refine St.r0 h [(51, .inl (.int .i64 ((j : Nat) : Int))), (52, .inl (.bool true))] [] ?_ ?_
            · exact oz (k_mv (.inl rfl) rfl) <|
              oz (k_bi (.int .i64 ((j : Nat) : Int)) (.int .i64 ((4 : Nat) : Int)) (.bool true) (lt_i (m := ((j : Nat) : Int)) (n := ((4 : Nat) : Int)) (decide_eq_true (by omega))) rfl rfl) <|
              ok_nil
            clear h; intro β a w h
            refine sym_then ?_
            refine s_ct h ?_
            refine wp_skip ?_
            refine sym_then ?_
            refine sym_seq ?_
            refine blk_in ?_
            refine St.rg h [(55, .inl (.int .i64 ((t : Nat) : Int))), (56, .inl (.int .i64 ((t : Nat) : Int))), (57, .inr (5, pt t)), (58, .inl (.int .u32 (((bwF (pk PF k) (r16 (pk PF k) t) t j t) : Nat) : Int))), (59, .inl (.int .u32 ((((bwF (pk PF k) (r16 (pk PF k) t) t j t) * 256 % B32) : Nat) : Int))), (60, .inr (4, sl 0 M pc)), (61, .inl (.int .i64 (((64 * k) : Nat) : Int))), (62, .inl (.int .i64 ((t : Nat) : Int))), (63, .inl (.int .i64 (((4 * t) : Nat) : Int))), (64, .inl (.int .i64 ((((64 * k) + (4 * t)) : Nat) : Int))), (65, .inl (.int .i64 ((j : Nat) : Int))), (66, .inl (.int .i64 (((((64 * k) + (4 * t)) + j) : Nat) : Int))), (67, .inr (4, pt (0 + (((64 * k) + (4 * t)) + j)))), (68, .inl (.int .u8 (((pk PF k (t * 4 + j)) : Nat) : Int))), (69, .inl (.int .u32 (((pk PF k (t * 4 + j)) : Nat) : Int))), (70, .inl (.int .u32 ((((((bwF (pk PF k) (r16 (pk PF k) t) t j t) * 256 % B32) + (pk PF k (t * 4 + j))) % B32) : Nat) : Int))), (71, .inr (5, pt t))] [] [(5, aw 64 (updN (bwF (pk PF k) (r16 (pk PF k) t) t j) t ((((bwF (pk PF k) (r16 (pk PF k) t) t j t) * 256 % B32) + (pk PF k (t * 4 + j))) % B32)))] [nn, nn, nn, eR 5, nn, nn, nn, nn, nn, nn, nn, nn, nn, eR 4, nn, nn, nn, eS 5] ?_ ?_
            · exact oc (k_mv (.inl rfl) rfl) <|
              oc (k_mv (.inl rfl) rfl) <|
              oc (k_ia 5 0 t (.int .i64 ((t : Nat) : Int)) (ix64 (i := t) (by omega)) rfl rfl) <|
              oc (k_ld 5 t (.int .u32 (((bwF (pk PF k) (r16 (pk PF k) t) t j t) : Nat) : Int)) (c := aw 64 (bwF (pk PF k) (r16 (pk PF k) t) t j)) (ld_aw (n := 64) (F := (bwF (pk PF k) (r16 (pk PF k) t) t j)) (i := t) (t0 := 104) (by omega)) rfl rfl) <|
              oc (k_bi (.int .u32 (((bwF (pk PF k) (r16 (pk PF k) t) t j t) : Nat) : Int)) (.int .u32 ((256 : Nat) : Int)) (.int .u32 ((((bwF (pk PF k) (r16 (pk PF k) t) t j t) * 256 % B32) : Nat) : Int)) (mul_w (m := (bwF (pk PF k) (r16 (pk PF k) t) t j t)) (n := 256)) rfl rfl) <|
              oc (k_mp 4 (sl 0 M pc) (.inl rfl) rfl) <|
              oc (k_mv (.inl rfl) rfl) <|
              oc (k_mv (.inl rfl) rfl) <|
              oc (k_bi (.int .i64 ((4 : Nat) : Int)) (.int .i64 ((t : Nat) : Int)) (.int .i64 (((4 * t) : Nat) : Int)) (mu_i (m := 4) (n := t) (by omega)) rfl rfl) <|
              oc (k_bi (.int .i64 (((64 * k) : Nat) : Int)) (.int .i64 (((4 * t) : Nat) : Int)) (.int .i64 ((((64 * k) + (4 * t)) : Nat) : Int)) (ad_i (m := (64 * k)) (n := (4 * t)) (by omega)) rfl rfl) <|
              oc (k_mv (.inl rfl) rfl) <|
              oc (k_bi (.int .i64 ((((64 * k) + (4 * t)) : Nat) : Int)) (.int .i64 ((j : Nat) : Int)) (.int .i64 (((((64 * k) + (4 * t)) + j) : Nat) : Int)) (ad_i (m := ((64 * k) + (4 * t))) (n := j) (by omega)) rfl rfl) <|
              oc (k_ib 4 ((0 + (((64 * k) + (4 * t)) + j))) (sl 0 M pc) (.int .i64 (((((64 * k) + (4 * t)) + j) : Nat) : Int)) (ix_pc (i := (((64 * k) + (4 * t)) + j)) (by omega)) rfl rfl) <|
              oc (k_ld 4 ((0 + (((64 * k) + (4 * t)) + j))) (.int .u8 (((pk PF k (t * 4 + j)) : Nat) : Int)) (c := c) (ld_pb (k := k) (i := t * 4 + j) (F := PF) (M := M) (t0 := 5) hc (by omega) (by omega)) rfl rfl) <|
              oc (k_co (.int .u8 (((pk PF k (t * 4 + j)) : Nat) : Int)) (.int .u32 (((pk PF k (t * 4 + j)) : Nat) : Int)) (cv_bw (n := (pk PF k (t * 4 + j))) (hp _)) rfl rfl) <|
              oc (k_bi (.int .u32 ((((bwF (pk PF k) (r16 (pk PF k) t) t j t) * 256 % B32) : Nat) : Int)) (.int .u32 (((pk PF k (t * 4 + j)) : Nat) : Int)) (.int .u32 ((((((bwF (pk PF k) (r16 (pk PF k) t) t j t) * 256 % B32) + (pk PF k (t * 4 + j))) % B32) : Nat) : Int)) (ad_w (m := ((bwF (pk PF k) (r16 (pk PF k) t) t j t) * 256 % B32)) (n := (pk PF k (t * 4 + j)))) rfl rfl) <|
              oc (k_ia 5 0 t (.int .i64 ((t : Nat) : Int)) (ix64 (i := t) (by omega)) rfl rfl) <|
              oc (k_st 5 t (.int .u32 ((((((bwF (pk PF k) (r16 (pk PF k) t) t j t) * 256 % B32) + (pk PF k (t * 4 + j))) % B32) : Nat) : Int)) (c := aw 64 (bwF (pk PF k) (r16 (pk PF k) t) t j)) (n := aw 64 (updN (bwF (pk PF k) (r16 (pk PF k) t) t j) t ((((bwF (pk PF k) (r16 (pk PF k) t) t j t) * 256 % B32) + (pk PF k (t * 4 + j))) % B32))) (st_aw (n := 64) (F := (bwF (pk PF k) (r16 (pk PF k) t) t j)) (i := t) (v := ((((bwF (pk PF k) (r16 (pk PF k) t) t j t) * 256 % B32) + (pk PF k (t * 4 + j))) % B32)) (t0 := 104) (by omega)) rfl rfl) <|
              ok_nil
            clear h; intro β a w h
            refine blk_norm ?_
            refine sym_then ?_
            refine St.r0 h [(53, .inl (.int .i64 ((j : Nat) : Int))), (54, .inl (.int .i64 (((j + 1) : Nat) : Int))), (11, .inl (.int .i64 (((j + 1) : Nat) : Int)))] [eO] ?_ ?_
            · exact oc (k_m0 rfl rfl) <|
              oz (k_bi (.int .i64 ((j : Nat) : Int)) (.int .i64 ((1 : Nat) : Int)) (.int .i64 (((j + 1) : Nat) : Int)) (ad_i (m := j) (n := 1) (by omega)) rfl rfl) <|
              oz (k_mv (.inr rfl) rfl) <|
              ok_nil
            clear h; intro β a w h
            replace h := St.sm h 5 (aw 64 (bwF (pk PF k) (r16 (pk PF k) t) t (j + 1))) (c := aw 64 (updN (bwF (pk PF k) (r16 (pk PF k) t) t j) t ((((bwF (pk PF k) (r16 (pk PF k) t) t j t) * 256 % B32) + (pk PF k (t * 4 + j))) % B32))) (t := 104) (bw_s hp)
            obtain ⟨x, h⟩ := St.jn (n := 226) h [0, 2, 3, 4, 5, 6, 7, 8, 9, 10, 11] [.inl (.slice aa len cap), .inr (0, pt 0), .inr (1, pt 0), .inr (2, sl 0 8 8), .inr (3, sl 0 80 80), .inl (.int .i64 ((8 : Nat) : Int)), .inr (4, sl 0 M pc), .inl (.int .i64 (((64 * k) : Nat) : Int)), .inr (5, pt 0), .inl (.int .i64 ((t : Nat) : Int)), .inl (.int .i64 (((j + 1) : Nat) : Int))] [(ab 32 (fun _ => 0), 34), (aw 8 (bkH (bgF 8) PF k), 99), (au 8 sq, 102), (au 80 cu, 102), (c, 5), (aw 64 (bwF (pk PF k) (r16 (pk PF k) t) t (j + 1)), 104)] (by kernel_rfl) (by kernel_rfl) (by kernel_rfl)
            exact ⟨hltj, x, _, h⟩
          · obtain rfl : 4 = j := by omega
            refine sym_seq ?_
            refine sym_seq ?_
            refine St.r0 h [(51, .inl (.int .i64 ((4 : Nat) : Int))), (52, .inl (.bool false))] [] ?_ ?_
            · exact oz (k_mv (.inl rfl) rfl) <|
              oz (k_bi (.int .i64 ((4 : Nat) : Int)) (.int .i64 ((4 : Nat) : Int)) (.bool false) (lt_i (m := ((4 : Nat) : Int)) (n := ((4 : Nat) : Int)) (decide_eq_false (by omega))) rfl rfl) <|
              ok_nil
            clear h; intro β a w h
            refine sym_then ?_
            refine s_cf h ?_
            refine wp_exit ?_
            refine then_exit ?_
            refine then_exit ?_
            refine blk_exit ?_
            refine sym_then ?_
            refine wp_exit ?_
            refine then_exit ?_
            refine blk_exit ?_
            refine sym_then ?_
            refine St.r0 h [(47, .inl (.int .i64 ((t : Nat) : Int))), (48, .inl (.int .i64 (((t + 1) : Nat) : Int))), (10, .inl (.int .i64 (((t + 1) : Nat) : Int)))] [eO] ?_ ?_
            · exact oc (k_m0 rfl rfl) <|
              oz (k_bi (.int .i64 ((t : Nat) : Int)) (.int .i64 ((1 : Nat) : Int)) (.int .i64 (((t + 1) : Nat) : Int)) (ad_i (m := t) (n := 1) (by omega)) rfl rfl) <|
              oz (k_mv (.inr rfl) rfl) <|
              ok_nil
            clear h; intro β a w h
            replace h := St.sm h 5 (aw 64 (rT (pk PF k) (t + 1))) (c := aw 64 (bwF (pk PF k) (r16 (pk PF k) t) t 4)) (t := 104) (rT_e _ h16)
            obtain ⟨x, h⟩ := St.jn (n := 226) h [0, 2, 3, 4, 5, 6, 7, 8, 9, 10] [.inl (.slice aa len cap), .inr (0, pt 0), .inr (1, pt 0), .inr (2, sl 0 8 8), .inr (3, sl 0 80 80), .inl (.int .i64 ((8 : Nat) : Int)), .inr (4, sl 0 M pc), .inl (.int .i64 (((64 * k) : Nat) : Int)), .inr (5, pt 0), .inl (.int .i64 (((t + 1) : Nat) : Int))] [(ab 32 (fun _ => 0), 34), (aw 8 (bkH (bgF 8) PF k), 99), (au 8 sq, 102), (au 80 cu, 102), (c, 5), (aw 64 (rT (pk PF k) (t + 1)), 104)] (by kernel_rfl) (by kernel_rfl) (by kernel_rfl)
            exact ⟨hltt, x, _, h⟩
        · refine sym_seq ?_
          refine sym_seq ?_
          refine St.r0 h [(45, .inl (.int .i64 ((t : Nat) : Int))), (46, .inl (.bool true))] [] ?_ ?_
          · exact oz (k_mv (.inl rfl) rfl) <|
            oz (k_bi (.int .i64 ((t : Nat) : Int)) (.int .i64 ((64 : Nat) : Int)) (.bool true) (lt_i (m := ((t : Nat) : Int)) (n := ((64 : Nat) : Int)) (decide_eq_true (by omega))) rfl rfl) <|
            ok_nil
          clear h; intro β a w h
          refine sym_then ?_
          refine s_ct h ?_
          refine wp_skip ?_
          refine sym_then ?_
          refine sym_seq ?_
          refine blk_in ?_
          refine sym_seq ?_
          refine sym_seq ?_
          refine St.r0 h [(49, .inl (.int .i64 ((t : Nat) : Int))), (50, .inl (.bool false))] [] ?_ ?_
          · exact oz (k_mv (.inl rfl) rfl) <|
            oz (k_bi (.int .i64 ((t : Nat) : Int)) (.int .i64 ((16 : Nat) : Int)) (.bool false) (lt_i (m := ((t : Nat) : Int)) (n := ((16 : Nat) : Int)) (decide_eq_false (by omega))) rfl rfl) <|
            ok_nil
          clear h; intro β a w h
          refine sym_then ?_
          refine s_cf h ?_
          refine wp_skip ?_
          refine sym_then ?_
          refine sym_seq ?_
          refine St.r0 h [(72, .inl (.int .i64 ((t : Nat) : Int))), (73, .inl (.int .i64 (((t - 2) : Nat) : Int))), (74, .inr (5, pt (t - 2))), (75, .inl (.int .u32 (((rT (pk PF k) t (t - 2)) : Nat) : Int))), (12, .inl (.int .u32 (((rT (pk PF k) t (t - 2)) : Nat) : Int)))] [nn, nn, nn, eR 5] ?_ ?_
          · exact oc (k_mv (.inl rfl) rfl) <|
            oc (k_bi (.int .i64 ((t : Nat) : Int)) (.int .i64 ((2 : Nat) : Int)) (.int .i64 (((t - 2) : Nat) : Int)) (sb_zn (m := ((t : Nat) : Int)) (n := ((2 : Nat) : Int)) (k := (t - 2)) (by omega) (by omega)) rfl rfl) <|
            oc (k_ia 5 0 ((t - 2)) (.int .i64 (((t - 2) : Nat) : Int)) (ix64 (i := (t - 2)) (by omega)) rfl rfl) <|
            oc (k_ld 5 ((t - 2)) (.int .u32 (((rT (pk PF k) t (t - 2)) : Nat) : Int)) (c := aw 64 (rT (pk PF k) t)) (ld_aw (n := 64) (F := (rT (pk PF k) t)) (i := (t - 2)) (t0 := 104) (by omega)) rfl rfl) <|
            oz (k_mv (.inr rfl) rfl) <|
            ok_nil
          clear h; intro β a w h
          refine sym_then ?_
          refine sym_seq ?_
          refine St.r0 h [(76, .inl (.int .i64 ((t : Nat) : Int))), (77, .inl (.int .i64 (((t - 15) : Nat) : Int))), (78, .inr (5, pt (t - 15))), (79, .inl (.int .u32 (((rT (pk PF k) t (t - 15)) : Nat) : Int))), (13, .inl (.int .u32 (((rT (pk PF k) t (t - 15)) : Nat) : Int)))] [nn, nn, nn, eR 5] ?_ ?_
          · exact oc (k_mv (.inl rfl) rfl) <|
            oc (k_bi (.int .i64 ((t : Nat) : Int)) (.int .i64 ((15 : Nat) : Int)) (.int .i64 (((t - 15) : Nat) : Int)) (sb_zn (m := ((t : Nat) : Int)) (n := ((15 : Nat) : Int)) (k := (t - 15)) (by omega) (by omega)) rfl rfl) <|
            oc (k_ia 5 0 ((t - 15)) (.int .i64 (((t - 15) : Nat) : Int)) (ix64 (i := (t - 15)) (by omega)) rfl rfl) <|
            oc (k_ld 5 ((t - 15)) (.int .u32 (((rT (pk PF k) t (t - 15)) : Nat) : Int)) (c := aw 64 (rT (pk PF k) t)) (ld_aw (n := 64) (F := (rT (pk PF k) t)) (i := (t - 15)) (t0 := 104) (by omega)) rfl rfl) <|
            oz (k_mv (.inr rfl) rfl) <|
            ok_nil
          clear h; intro β a w h
          refine sym_then ?_
          refine St.rg h [(80, .inl (.int .i64 ((t : Nat) : Int))), (81, .inl (.int .u32 (((rT (pk PF k) t (t - 2)) : Nat) : Int))), (82, .inl (.int .u32 (((tu (rT (pk PF k) t (t - 2)) 17) : Nat) : Int))), (83, .inl (.int .u32 (((rT (pk PF k) t (t - 2)) : Nat) : Int))), (84, .inl (.int .u32 (((tu (rT (pk PF k) t (t - 2)) 19) : Nat) : Int))), (85, .inl (.int .u32 ((((tu (rT (pk PF k) t (t - 2)) 17) ^^^ (tu (rT (pk PF k) t (t - 2)) 19)) : Nat) : Int))), (86, .inl (.int .u32 (((rT (pk PF k) t (t - 2)) : Nat) : Int))), (87, .inl (.int .u32 ((((rT (pk PF k) t (t - 2)) / 2 ^ 10) : Nat) : Int))), (88, .inl (.int .u32 (((((tu (rT (pk PF k) t (t - 2)) 17) ^^^ (tu (rT (pk PF k) t (t - 2)) 19)) ^^^ ((rT (pk PF k) t (t - 2)) / 2 ^ 10)) : Nat) : Int))), (89, .inl (.int .i64 ((t : Nat) : Int))), (90, .inl (.int .i64 (((t - 7) : Nat) : Int))), (91, .inr (5, pt (t - 7))), (92, .inl (.int .u32 (((rT (pk PF k) t (t - 7)) : Nat) : Int))), (93, .inl (.int .u32 (((((((tu (rT (pk PF k) t (t - 2)) 17) ^^^ (tu (rT (pk PF k) t (t - 2)) 19)) ^^^ ((rT (pk PF k) t (t - 2)) / 2 ^ 10)) + (rT (pk PF k) t (t - 7))) % B32) : Nat) : Int))), (94, .inl (.int .u32 (((rT (pk PF k) t (t - 15)) : Nat) : Int))), (95, .inl (.int .u32 (((tu (rT (pk PF k) t (t - 15)) 7) : Nat) : Int))), (96, .inl (.int .u32 (((rT (pk PF k) t (t - 15)) : Nat) : Int))), (97, .inl (.int .u32 (((tu (rT (pk PF k) t (t - 15)) 18) : Nat) : Int))), (98, .inl (.int .u32 ((((tu (rT (pk PF k) t (t - 15)) 7) ^^^ (tu (rT (pk PF k) t (t - 15)) 18)) : Nat) : Int))), (99, .inl (.int .u32 (((rT (pk PF k) t (t - 15)) : Nat) : Int))), (100, .inl (.int .u32 ((((rT (pk PF k) t (t - 15)) / 2 ^ 3) : Nat) : Int))), (101, .inl (.int .u32 (((((tu (rT (pk PF k) t (t - 15)) 7) ^^^ (tu (rT (pk PF k) t (t - 15)) 18)) ^^^ ((rT (pk PF k) t (t - 15)) / 2 ^ 3)) : Nat) : Int))), (102, .inl (.int .u32 (((((((((tu (rT (pk PF k) t (t - 2)) 17) ^^^ (tu (rT (pk PF k) t (t - 2)) 19)) ^^^ ((rT (pk PF k) t (t - 2)) / 2 ^ 10)) + (rT (pk PF k) t (t - 7))) % B32) + (((tu (rT (pk PF k) t (t - 15)) 7) ^^^ (tu (rT (pk PF k) t (t - 15)) 18)) ^^^ ((rT (pk PF k) t (t - 15)) / 2 ^ 3))) % B32) : Nat) : Int))), (103, .inl (.int .i64 ((t : Nat) : Int))), (104, .inl (.int .i64 (((t - 16) : Nat) : Int))), (105, .inr (5, pt (t - 16))), (106, .inl (.int .u32 (((rT (pk PF k) t (t - 16)) : Nat) : Int))), (107, .inl (.int .u32 (((((((((((tu (rT (pk PF k) t (t - 2)) 17) ^^^ (tu (rT (pk PF k) t (t - 2)) 19)) ^^^ ((rT (pk PF k) t (t - 2)) / 2 ^ 10)) + (rT (pk PF k) t (t - 7))) % B32) + (((tu (rT (pk PF k) t (t - 15)) 7) ^^^ (tu (rT (pk PF k) t (t - 15)) 18)) ^^^ ((rT (pk PF k) t (t - 15)) / 2 ^ 3))) % B32) + (rT (pk PF k) t (t - 16))) % B32) : Nat) : Int))), (108, .inr (5, pt t))] [] [(5, aw 64 (updN (rT (pk PF k) t) t (((((((((tu (rT (pk PF k) t (t - 2)) 17) ^^^ (tu (rT (pk PF k) t (t - 2)) 19)) ^^^ ((rT (pk PF k) t (t - 2)) / 2 ^ 10)) + (rT (pk PF k) t (t - 7))) % B32) + (((tu (rT (pk PF k) t (t - 15)) 7) ^^^ (tu (rT (pk PF k) t (t - 15)) 18)) ^^^ ((rT (pk PF k) t (t - 15)) / 2 ^ 3))) % B32) + (rT (pk PF k) t (t - 16))) % B32)))] [nn, nn, nn, nn, nn, nn, nn, nn, nn, nn, nn, nn, eR 5, nn, nn, nn, nn, nn, nn, nn, nn, nn, nn, nn, nn, nn, eR 5, nn, nn, eS 5] ?_ ?_
          · exact oc (k_mv (.inl rfl) rfl) <|
            oc (k_mv (.inl rfl) rfl) <|
            oc (k_ca 68 #[.int .u32 (((rT (pk PF k) t (t - 2)) : Nat) : Int), .int .u64 ((17 : Nat) : Int)] (.int .u32 (((tu (rT (pk PF k) t (t - 2)) 17) : Nat) : Int)) (right_k (rT_lt hp _ _) (by decide)) rfl rfl) <|
            oc (k_mv (.inl rfl) rfl) <|
            oc (k_ca 68 #[.int .u32 (((rT (pk PF k) t (t - 2)) : Nat) : Int), .int .u64 ((19 : Nat) : Int)] (.int .u32 (((tu (rT (pk PF k) t (t - 2)) 19) : Nat) : Int)) (right_k (rT_lt hp _ _) (by decide)) rfl rfl) <|
            oc (k_bi (.int .u32 (((tu (rT (pk PF k) t (t - 2)) 17) : Nat) : Int)) (.int .u32 (((tu (rT (pk PF k) t (t - 2)) 19) : Nat) : Int)) (.int .u32 ((((tu (rT (pk PF k) t (t - 2)) 17) ^^^ (tu (rT (pk PF k) t (t - 2)) 19)) : Nat) : Int)) (xor_w (m := (tu (rT (pk PF k) t (t - 2)) 17)) (n := (tu (rT (pk PF k) t (t - 2)) 19)) (tu_lt (rT_lt hp _ _)) (tu_lt (rT_lt hp _ _))) rfl rfl) <|
            oc (k_mv (.inl rfl) rfl) <|
            oc (k_bi (.int .u32 (((rT (pk PF k) t (t - 2)) : Nat) : Int)) (.int .u64 ((10 : Nat) : Int)) (.int .u32 ((((rT (pk PF k) t (t - 2)) / 2 ^ 10) : Nat) : Int)) (sr_wu (m := (rT (pk PF k) t (t - 2))) (r := 10) (by omega)) rfl rfl) <|
            oc (k_bi (.int .u32 ((((tu (rT (pk PF k) t (t - 2)) 17) ^^^ (tu (rT (pk PF k) t (t - 2)) 19)) : Nat) : Int)) (.int .u32 ((((rT (pk PF k) t (t - 2)) / 2 ^ 10) : Nat) : Int)) (.int .u32 (((((tu (rT (pk PF k) t (t - 2)) 17) ^^^ (tu (rT (pk PF k) t (t - 2)) 19)) ^^^ ((rT (pk PF k) t (t - 2)) / 2 ^ 10)) : Nat) : Int)) (xor_w (m := ((tu (rT (pk PF k) t (t - 2)) 17) ^^^ (tu (rT (pk PF k) t (t - 2)) 19))) (n := ((rT (pk PF k) t (t - 2)) / 2 ^ 10)) (xor_lt (tu_lt (rT_lt hp _ _)) (tu_lt (rT_lt hp _ _))) (div_lt (rT_lt hp _ _))) rfl rfl) <|
            oc (k_mv (.inl rfl) rfl) <|
            oc (k_bi (.int .i64 ((t : Nat) : Int)) (.int .i64 ((7 : Nat) : Int)) (.int .i64 (((t - 7) : Nat) : Int)) (sb_zn (m := ((t : Nat) : Int)) (n := ((7 : Nat) : Int)) (k := (t - 7)) (by omega) (by omega)) rfl rfl) <|
            oc (k_ia 5 0 ((t - 7)) (.int .i64 (((t - 7) : Nat) : Int)) (ix64 (i := (t - 7)) (by omega)) rfl rfl) <|
            oc (k_ld 5 ((t - 7)) (.int .u32 (((rT (pk PF k) t (t - 7)) : Nat) : Int)) (c := aw 64 (rT (pk PF k) t)) (ld_aw (n := 64) (F := (rT (pk PF k) t)) (i := (t - 7)) (t0 := 104) (by omega)) rfl rfl) <|
            oc (k_bi (.int .u32 (((((tu (rT (pk PF k) t (t - 2)) 17) ^^^ (tu (rT (pk PF k) t (t - 2)) 19)) ^^^ ((rT (pk PF k) t (t - 2)) / 2 ^ 10)) : Nat) : Int)) (.int .u32 (((rT (pk PF k) t (t - 7)) : Nat) : Int)) (.int .u32 (((((((tu (rT (pk PF k) t (t - 2)) 17) ^^^ (tu (rT (pk PF k) t (t - 2)) 19)) ^^^ ((rT (pk PF k) t (t - 2)) / 2 ^ 10)) + (rT (pk PF k) t (t - 7))) % B32) : Nat) : Int)) (ad_w (m := (((tu (rT (pk PF k) t (t - 2)) 17) ^^^ (tu (rT (pk PF k) t (t - 2)) 19)) ^^^ ((rT (pk PF k) t (t - 2)) / 2 ^ 10))) (n := (rT (pk PF k) t (t - 7)))) rfl rfl) <|
            oc (k_mv (.inl rfl) rfl) <|
            oc (k_ca 68 #[.int .u32 (((rT (pk PF k) t (t - 15)) : Nat) : Int), .int .u64 ((7 : Nat) : Int)] (.int .u32 (((tu (rT (pk PF k) t (t - 15)) 7) : Nat) : Int)) (right_k (rT_lt hp _ _) (by decide)) rfl rfl) <|
            oc (k_mv (.inl rfl) rfl) <|
            oc (k_ca 68 #[.int .u32 (((rT (pk PF k) t (t - 15)) : Nat) : Int), .int .u64 ((18 : Nat) : Int)] (.int .u32 (((tu (rT (pk PF k) t (t - 15)) 18) : Nat) : Int)) (right_k (rT_lt hp _ _) (by decide)) rfl rfl) <|
            oc (k_bi (.int .u32 (((tu (rT (pk PF k) t (t - 15)) 7) : Nat) : Int)) (.int .u32 (((tu (rT (pk PF k) t (t - 15)) 18) : Nat) : Int)) (.int .u32 ((((tu (rT (pk PF k) t (t - 15)) 7) ^^^ (tu (rT (pk PF k) t (t - 15)) 18)) : Nat) : Int)) (xor_w (m := (tu (rT (pk PF k) t (t - 15)) 7)) (n := (tu (rT (pk PF k) t (t - 15)) 18)) (tu_lt (rT_lt hp _ _)) (tu_lt (rT_lt hp _ _))) rfl rfl) <|
            oc (k_mv (.inl rfl) rfl) <|
            oc (k_bi (.int .u32 (((rT (pk PF k) t (t - 15)) : Nat) : Int)) (.int .u64 ((3 : Nat) : Int)) (.int .u32 ((((rT (pk PF k) t (t - 15)) / 2 ^ 3) : Nat) : Int)) (sr_wu (m := (rT (pk PF k) t (t - 15))) (r := 3) (by omega)) rfl rfl) <|
            oc (k_bi (.int .u32 ((((tu (rT (pk PF k) t (t - 15)) 7) ^^^ (tu (rT (pk PF k) t (t - 15)) 18)) : Nat) : Int)) (.int .u32 ((((rT (pk PF k) t (t - 15)) / 2 ^ 3) : Nat) : Int)) (.int .u32 (((((tu (rT (pk PF k) t (t - 15)) 7) ^^^ (tu (rT (pk PF k) t (t - 15)) 18)) ^^^ ((rT (pk PF k) t (t - 15)) / 2 ^ 3)) : Nat) : Int)) (xor_w (m := ((tu (rT (pk PF k) t (t - 15)) 7) ^^^ (tu (rT (pk PF k) t (t - 15)) 18))) (n := ((rT (pk PF k) t (t - 15)) / 2 ^ 3)) (xor_lt (tu_lt (rT_lt hp _ _)) (tu_lt (rT_lt hp _ _))) (div_lt (rT_lt hp _ _))) rfl rfl) <|
            oc (k_bi (.int .u32 (((((((tu (rT (pk PF k) t (t - 2)) 17) ^^^ (tu (rT (pk PF k) t (t - 2)) 19)) ^^^ ((rT (pk PF k) t (t - 2)) / 2 ^ 10)) + (rT (pk PF k) t (t - 7))) % B32) : Nat) : Int)) (.int .u32 (((((tu (rT (pk PF k) t (t - 15)) 7) ^^^ (tu (rT (pk PF k) t (t - 15)) 18)) ^^^ ((rT (pk PF k) t (t - 15)) / 2 ^ 3)) : Nat) : Int)) (.int .u32 (((((((((tu (rT (pk PF k) t (t - 2)) 17) ^^^ (tu (rT (pk PF k) t (t - 2)) 19)) ^^^ ((rT (pk PF k) t (t - 2)) / 2 ^ 10)) + (rT (pk PF k) t (t - 7))) % B32) + (((tu (rT (pk PF k) t (t - 15)) 7) ^^^ (tu (rT (pk PF k) t (t - 15)) 18)) ^^^ ((rT (pk PF k) t (t - 15)) / 2 ^ 3))) % B32) : Nat) : Int)) (ad_w (m := (((((tu (rT (pk PF k) t (t - 2)) 17) ^^^ (tu (rT (pk PF k) t (t - 2)) 19)) ^^^ ((rT (pk PF k) t (t - 2)) / 2 ^ 10)) + (rT (pk PF k) t (t - 7))) % B32)) (n := (((tu (rT (pk PF k) t (t - 15)) 7) ^^^ (tu (rT (pk PF k) t (t - 15)) 18)) ^^^ ((rT (pk PF k) t (t - 15)) / 2 ^ 3)))) rfl rfl) <|
            oc (k_mv (.inl rfl) rfl) <|
            oc (k_bi (.int .i64 ((t : Nat) : Int)) (.int .i64 ((16 : Nat) : Int)) (.int .i64 (((t - 16) : Nat) : Int)) (sb_zn (m := ((t : Nat) : Int)) (n := ((16 : Nat) : Int)) (k := (t - 16)) (by omega) (by omega)) rfl rfl) <|
            oc (k_ia 5 0 ((t - 16)) (.int .i64 (((t - 16) : Nat) : Int)) (ix64 (i := (t - 16)) (by omega)) rfl rfl) <|
            oc (k_ld 5 ((t - 16)) (.int .u32 (((rT (pk PF k) t (t - 16)) : Nat) : Int)) (c := aw 64 (rT (pk PF k) t)) (ld_aw (n := 64) (F := (rT (pk PF k) t)) (i := (t - 16)) (t0 := 104) (by omega)) rfl rfl) <|
            oc (k_bi (.int .u32 (((((((((tu (rT (pk PF k) t (t - 2)) 17) ^^^ (tu (rT (pk PF k) t (t - 2)) 19)) ^^^ ((rT (pk PF k) t (t - 2)) / 2 ^ 10)) + (rT (pk PF k) t (t - 7))) % B32) + (((tu (rT (pk PF k) t (t - 15)) 7) ^^^ (tu (rT (pk PF k) t (t - 15)) 18)) ^^^ ((rT (pk PF k) t (t - 15)) / 2 ^ 3))) % B32) : Nat) : Int)) (.int .u32 (((rT (pk PF k) t (t - 16)) : Nat) : Int)) (.int .u32 (((((((((((tu (rT (pk PF k) t (t - 2)) 17) ^^^ (tu (rT (pk PF k) t (t - 2)) 19)) ^^^ ((rT (pk PF k) t (t - 2)) / 2 ^ 10)) + (rT (pk PF k) t (t - 7))) % B32) + (((tu (rT (pk PF k) t (t - 15)) 7) ^^^ (tu (rT (pk PF k) t (t - 15)) 18)) ^^^ ((rT (pk PF k) t (t - 15)) / 2 ^ 3))) % B32) + (rT (pk PF k) t (t - 16))) % B32) : Nat) : Int)) (ad_w (m := (((((((tu (rT (pk PF k) t (t - 2)) 17) ^^^ (tu (rT (pk PF k) t (t - 2)) 19)) ^^^ ((rT (pk PF k) t (t - 2)) / 2 ^ 10)) + (rT (pk PF k) t (t - 7))) % B32) + (((tu (rT (pk PF k) t (t - 15)) 7) ^^^ (tu (rT (pk PF k) t (t - 15)) 18)) ^^^ ((rT (pk PF k) t (t - 15)) / 2 ^ 3))) % B32)) (n := (rT (pk PF k) t (t - 16)))) rfl rfl) <|
            oc (k_ia 5 0 t (.int .i64 ((t : Nat) : Int)) (ix64 (i := t) (by omega)) rfl rfl) <|
            oc (k_st 5 t (.int .u32 (((((((((((tu (rT (pk PF k) t (t - 2)) 17) ^^^ (tu (rT (pk PF k) t (t - 2)) 19)) ^^^ ((rT (pk PF k) t (t - 2)) / 2 ^ 10)) + (rT (pk PF k) t (t - 7))) % B32) + (((tu (rT (pk PF k) t (t - 15)) 7) ^^^ (tu (rT (pk PF k) t (t - 15)) 18)) ^^^ ((rT (pk PF k) t (t - 15)) / 2 ^ 3))) % B32) + (rT (pk PF k) t (t - 16))) % B32) : Nat) : Int)) (c := aw 64 (rT (pk PF k) t)) (n := aw 64 (updN (rT (pk PF k) t) t (((((((((tu (rT (pk PF k) t (t - 2)) 17) ^^^ (tu (rT (pk PF k) t (t - 2)) 19)) ^^^ ((rT (pk PF k) t (t - 2)) / 2 ^ 10)) + (rT (pk PF k) t (t - 7))) % B32) + (((tu (rT (pk PF k) t (t - 15)) 7) ^^^ (tu (rT (pk PF k) t (t - 15)) 18)) ^^^ ((rT (pk PF k) t (t - 15)) / 2 ^ 3))) % B32) + (rT (pk PF k) t (t - 16))) % B32))) (st_aw (n := 64) (F := (rT (pk PF k) t)) (i := t) (v := (((((((((tu (rT (pk PF k) t (t - 2)) 17) ^^^ (tu (rT (pk PF k) t (t - 2)) 19)) ^^^ ((rT (pk PF k) t (t - 2)) / 2 ^ 10)) + (rT (pk PF k) t (t - 7))) % B32) + (((tu (rT (pk PF k) t (t - 15)) 7) ^^^ (tu (rT (pk PF k) t (t - 15)) 18)) ^^^ ((rT (pk PF k) t (t - 15)) / 2 ^ 3))) % B32) + (rT (pk PF k) t (t - 16))) % B32)) (t0 := 104) (by omega)) rfl rfl) <|
            ok_nil
          clear h; intro β a w h
          refine blk_norm ?_
          refine sym_then ?_
          refine St.r0 h [(47, .inl (.int .i64 ((t : Nat) : Int))), (48, .inl (.int .i64 (((t + 1) : Nat) : Int))), (10, .inl (.int .i64 (((t + 1) : Nat) : Int)))] [eO] ?_ ?_
          · exact oc (k_m0 rfl rfl) <|
            oz (k_bi (.int .i64 ((t : Nat) : Int)) (.int .i64 ((1 : Nat) : Int)) (.int .i64 (((t + 1) : Nat) : Int)) (ad_i (m := t) (n := 1) (by omega)) rfl rfl) <|
            oz (k_mv (.inr rfl) rfl) <|
            ok_nil
          clear h; intro β a w h
          replace h := St.sm h 5 (aw 64 (rT (pk PF k) (t + 1))) (c := aw 64 (updN (rT (pk PF k) t) t (((((((((tu (rT (pk PF k) t (t - 2)) 17) ^^^ (tu (rT (pk PF k) t (t - 2)) 19)) ^^^ ((rT (pk PF k) t (t - 2)) / 2 ^ 10)) + (rT (pk PF k) t (t - 7))) % B32) + (((tu (rT (pk PF k) t (t - 15)) 7) ^^^ (tu (rT (pk PF k) t (t - 15)) 18)) ^^^ ((rT (pk PF k) t (t - 15)) / 2 ^ 3))) % B32) + (rT (pk PF k) t (t - 16))) % B32))) (t := 104) (rT_n _ h16)
          obtain ⟨x, h⟩ := St.jn (n := 226) h [0, 2, 3, 4, 5, 6, 7, 8, 9, 10] [.inl (.slice aa len cap), .inr (0, pt 0), .inr (1, pt 0), .inr (2, sl 0 8 8), .inr (3, sl 0 80 80), .inl (.int .i64 ((8 : Nat) : Int)), .inr (4, sl 0 M pc), .inl (.int .i64 (((64 * k) : Nat) : Int)), .inr (5, pt 0), .inl (.int .i64 (((t + 1) : Nat) : Int))] [(ab 32 (fun _ => 0), 34), (aw 8 (bkH (bgF 8) PF k), 99), (au 8 sq, 102), (au 80 cu, 102), (c, 5), (aw 64 (rT (pk PF k) (t + 1)), 104)] (by kernel_rfl) (by kernel_rfl) (by kernel_rfl)
          exact ⟨hltt, x, _, h⟩
      · obtain rfl : 64 = t := by omega
        refine sym_seq ?_
        refine sym_seq ?_
        refine St.r0 h [(45, .inl (.int .i64 ((64 : Nat) : Int))), (46, .inl (.bool false))] [] ?_ ?_
        · exact oz (k_mv (.inl rfl) rfl) <|
          oz (k_bi (.int .i64 ((64 : Nat) : Int)) (.int .i64 ((64 : Nat) : Int)) (.bool false) (lt_i (m := ((64 : Nat) : Int)) (n := ((64 : Nat) : Int)) (decide_eq_false (by omega))) rfl rfl) <|
          ok_nil
        clear h; intro β a w h
        refine sym_then ?_
        refine s_cf h ?_
        refine wp_exit ?_
        refine then_exit ?_
        refine then_exit ?_
        refine blk_exit ?_
        refine sym_then ?_
        refine sym_seq ?_
        refine St.rg h [(109, .inl (.agg (aw 8 (bkH (bgF 8) PF k)))), (14, .inr (6, pt 0))] [(aw 8 (fun _ => 0), 99)] [(6, aw 8 (bkH (bgF 8) PF k))] [eR 1, eN 6, eS 6] ?_ ?_
        · exact oc (k_ld 1 0 (.agg (aw 8 (bkH (bgF 8) PF k))) (c := aw 8 (bkH (bgF 8) PF k)) (ld8a (F := (bkH (bgF 8) PF k)) 99) rfl rfl) <|
          oc (k_al 6 al8 rfl rfl) <|
          oc (k_st 6 0 (.agg (aw 8 (bkH (bgF 8) PF k))) (c := aw 8 (fun _ => 0)) (n := aw 8 (bkH (bgF 8) PF k)) (st8a (F := (bkH (bgF 8) PF k)) (c := aw 8 (fun _ => 0)) 99 (aw_size _ _)) rfl rfl) <|
          ok_nil
        clear h; intro β a w h
        refine sym_then ?_
        refine sym_seq ?_
        refine sym_seq ?_
        refine St.r0 h [(15, .inl (.int .i64 ((0 : Nat) : Int)))] [] ?_ ?_
        · exact oz (k_mv (.inr rfl) rfl) <|
          ok_nil
        clear h; intro β a w h
        refine sym_then ?_
        refine blk_in ?_
        replace h := St.sm h 6 (aw 8 (vS (bkH (bgF 8) PF k) (rT (pk PF k) 64) 0)) (c := aw 8 (bkH (bgF 8) PF k)) (t := 99) rfl
        obtain ⟨x, h⟩ := St.jn (n := 226) h [0, 2, 3, 4, 5, 6, 7, 8, 9, 10, 14, 15] [.inl (.slice aa len cap), .inr (0, pt 0), .inr (1, pt 0), .inr (2, sl 0 8 8), .inr (3, sl 0 80 80), .inl (.int .i64 ((8 : Nat) : Int)), .inr (4, sl 0 M pc), .inl (.int .i64 (((64 * k) : Nat) : Int)), .inr (5, pt 0), .inl (.int .i64 ((64 : Nat) : Int)), .inr (6, pt 0), .inl (.int .i64 ((0 : Nat) : Int))] [(ab 32 (fun _ => 0), 34), (aw 8 (bkH (bgF 8) PF k), 99), (au 8 sq, 102), (au 80 cu, 102), (c, 5), (aw 64 (rT (pk PF k) 64), 104), (aw 8 (vS (bkH (bgF 8) PF k) (rT (pk PF k) 64) 0), 99)] (by kernel_rfl) (by kernel_rfl) (by kernel_rfl)
        refine loop_up 64 (fun r a w => ∃ (x : Nat → SV) (β : Nat → Nat), St (wd W0) (ov (jk 226 x) ([0, 2, 3, 4, 5, 6, 7, 8, 9, 10, 14, 15].zip [.inl (.slice aa len cap), .inr (0, pt 0), .inr (1, pt 0), .inr (2, sl 0 8 8), .inr (3, sl 0 80 80), .inl (.int .i64 ((8 : Nat) : Int)), .inr (4, sl 0 M pc), .inl (.int .i64 (((64 * k) : Nat) : Int)), .inr (5, pt 0), .inl (.int .i64 ((64 : Nat) : Int)), .inr (6, pt 0), .inl (.int .i64 ((r : Nat) : Int))])) [(ab 32 (fun _ => 0), 34), (aw 8 (bkH (bgF 8) PF k), 99), (au 8 sq, 102), (au 80 cu, 102), (c, 5), (aw 64 (rT (pk PF k) 64), 104), (aw 8 (vS (bkH (bgF 8) PF k) (rT (pk PF k) 64) r), 99)] β a w) ⟨x, _, h⟩ ?_
        clear h; rintro r a w hkr ⟨x, β, h⟩
        rcases Nat.lt_or_ge r 64 with hltr | hger
        · refine sym_seq ?_
          refine sym_seq ?_
          refine St.r0 h [(110, .inl (.int .i64 ((r : Nat) : Int))), (111, .inl (.bool true))] [] ?_ ?_
          · exact oz (k_mv (.inl rfl) rfl) <|
            oz (k_bi (.int .i64 ((r : Nat) : Int)) (.int .i64 ((64 : Nat) : Int)) (.bool true) (lt_i (m := ((r : Nat) : Int)) (n := ((64 : Nat) : Int)) (decide_eq_true (by omega))) rfl rfl) <|
            ok_nil
          clear h; intro β a w h
          refine sym_then ?_
          refine s_ct h ?_
          refine wp_skip ?_
          refine sym_then ?_
          refine sym_seq ?_
          refine blk_in ?_
          refine sym_seq ?_
          refine St.r0 h [(114, .inr (6, pt 4)), (115, .inl (.int .u32 (((vS (bkH (bgF 8) PF k) (rT (pk PF k) 64) r 4) : Nat) : Int))), (16, .inl (.int .u32 (((vS (bkH (bgF 8) PF k) (rT (pk PF k) 64) r 4) : Nat) : Int)))] [nn, eR 6] ?_ ?_
          · exact oc (k_ia 6 0 4 (.int .i64 ((4 : Nat) : Int)) (ix8h (i := 4) (by omega)) rfl rfl) <|
            oc (k_ld 6 4 (.int .u32 (((vS (bkH (bgF 8) PF k) (rT (pk PF k) 64) r 4) : Nat) : Int)) (c := aw 8 (vS (bkH (bgF 8) PF k) (rT (pk PF k) 64) r)) (ld_aw (n := 8) (F := (vS (bkH (bgF 8) PF k) (rT (pk PF k) 64) r)) (i := 4) (t0 := 99) (by omega)) rfl rfl) <|
            oz (k_mv (.inr rfl) rfl) <|
            ok_nil
          clear h; intro β a w h
          refine sym_then ?_
          refine sym_seq ?_
          refine St.r0 h [(116, .inr (6, pt 0)), (117, .inl (.int .u32 (((vS (bkH (bgF 8) PF k) (rT (pk PF k) 64) r 0) : Nat) : Int))), (17, .inl (.int .u32 (((vS (bkH (bgF 8) PF k) (rT (pk PF k) 64) r 0) : Nat) : Int)))] [nn, eR 6] ?_ ?_
          · exact oc (k_ia 6 0 0 (.int .i64 ((0 : Nat) : Int)) (ix8h (i := 0) (by omega)) rfl rfl) <|
            oc (k_ld 6 0 (.int .u32 (((vS (bkH (bgF 8) PF k) (rT (pk PF k) 64) r 0) : Nat) : Int)) (c := aw 8 (vS (bkH (bgF 8) PF k) (rT (pk PF k) 64) r)) (ld_aw (n := 8) (F := (vS (bkH (bgF 8) PF k) (rT (pk PF k) 64) r)) (i := 0) (t0 := 99) (by omega)) rfl rfl) <|
            oz (k_mv (.inr rfl) rfl) <|
            ok_nil
          clear h; intro β a w h
          refine sym_then ?_
          refine sym_seq ?_
          refine St.r0 h [(118, .inr (6, pt 7)), (119, .inl (.int .u32 (((vS (bkH (bgF 8) PF k) (rT (pk PF k) 64) r 7) : Nat) : Int))), (120, .inl (.int .u32 (((vS (bkH (bgF 8) PF k) (rT (pk PF k) 64) r 4) : Nat) : Int))), (121, .inl (.int .u32 (((tu (vS (bkH (bgF 8) PF k) (rT (pk PF k) 64) r 4) 6) : Nat) : Int))), (122, .inl (.int .u32 (((vS (bkH (bgF 8) PF k) (rT (pk PF k) 64) r 4) : Nat) : Int))), (123, .inl (.int .u32 (((tu (vS (bkH (bgF 8) PF k) (rT (pk PF k) 64) r 4) 11) : Nat) : Int))), (124, .inl (.int .u32 ((((tu (vS (bkH (bgF 8) PF k) (rT (pk PF k) 64) r 4) 6) ^^^ (tu (vS (bkH (bgF 8) PF k) (rT (pk PF k) 64) r 4) 11)) : Nat) : Int))), (125, .inl (.int .u32 (((vS (bkH (bgF 8) PF k) (rT (pk PF k) 64) r 4) : Nat) : Int))), (126, .inl (.int .u32 (((tu (vS (bkH (bgF 8) PF k) (rT (pk PF k) 64) r 4) 25) : Nat) : Int))), (127, .inl (.int .u32 (((((tu (vS (bkH (bgF 8) PF k) (rT (pk PF k) 64) r 4) 6) ^^^ (tu (vS (bkH (bgF 8) PF k) (rT (pk PF k) 64) r 4) 11)) ^^^ (tu (vS (bkH (bgF 8) PF k) (rT (pk PF k) 64) r 4) 25)) : Nat) : Int))), (128, .inl (.int .u32 (((((vS (bkH (bgF 8) PF k) (rT (pk PF k) 64) r 7) + (((tu (vS (bkH (bgF 8) PF k) (rT (pk PF k) 64) r 4) 6) ^^^ (tu (vS (bkH (bgF 8) PF k) (rT (pk PF k) 64) r 4) 11)) ^^^ (tu (vS (bkH (bgF 8) PF k) (rT (pk PF k) 64) r 4) 25))) % B32) : Nat) : Int))), (129, .inl (.int .u32 (((vS (bkH (bgF 8) PF k) (rT (pk PF k) 64) r 4) : Nat) : Int))), (130, .inr (6, pt 5)), (131, .inl (.int .u32 (((vS (bkH (bgF 8) PF k) (rT (pk PF k) 64) r 5) : Nat) : Int))), (132, .inl (.int .u32 ((((vS (bkH (bgF 8) PF k) (rT (pk PF k) 64) r 4) &&& (vS (bkH (bgF 8) PF k) (rT (pk PF k) 64) r 5)) : Nat) : Int))), (133, .inl (.int .u32 (((vS (bkH (bgF 8) PF k) (rT (pk PF k) 64) r 4) : Nat) : Int))), (134, .inl (.int .u32 (((4294967295 - (vS (bkH (bgF 8) PF k) (rT (pk PF k) 64) r 4)) : Nat) : Int))), (135, .inr (6, pt 6)), (136, .inl (.int .u32 (((vS (bkH (bgF 8) PF k) (rT (pk PF k) 64) r 6) : Nat) : Int))), (137, .inl (.int .u32 ((((4294967295 - (vS (bkH (bgF 8) PF k) (rT (pk PF k) 64) r 4)) &&& (vS (bkH (bgF 8) PF k) (rT (pk PF k) 64) r 6)) : Nat) : Int))), (138, .inl (.int .u32 ((((((vS (bkH (bgF 8) PF k) (rT (pk PF k) 64) r 4) &&& (vS (bkH (bgF 8) PF k) (rT (pk PF k) 64) r 5)) + ((4294967295 - (vS (bkH (bgF 8) PF k) (rT (pk PF k) 64) r 4)) &&& (vS (bkH (bgF 8) PF k) (rT (pk PF k) 64) r 6))) % B32) : Nat) : Int))), (139, .inl (.int .u32 (((((((vS (bkH (bgF 8) PF k) (rT (pk PF k) 64) r 7) + (((tu (vS (bkH (bgF 8) PF k) (rT (pk PF k) 64) r 4) 6) ^^^ (tu (vS (bkH (bgF 8) PF k) (rT (pk PF k) 64) r 4) 11)) ^^^ (tu (vS (bkH (bgF 8) PF k) (rT (pk PF k) 64) r 4) 25))) % B32) + ((((vS (bkH (bgF 8) PF k) (rT (pk PF k) 64) r 4) &&& (vS (bkH (bgF 8) PF k) (rT (pk PF k) 64) r 5)) + ((4294967295 - (vS (bkH (bgF 8) PF k) (rT (pk PF k) 64) r 4)) &&& (vS (bkH (bgF 8) PF k) (rT (pk PF k) 64) r 6))) % B32)) % B32) : Nat) : Int))), (140, .inr (3, sl 0 80 80)), (141, .inl (.int .i64 ((r : Nat) : Int))), (142, .inr (3, pt (0 + r))), (143, .inl (.int .u64 (((cu r) : Nat) : Int))), (144, .inl (.int .u64 ((((cu r) / 2 ^ 32) : Nat) : Int))), (145, .inl (.int .u32 ((((cu r) / 2 ^ 32) : Nat) : Int))), (146, .inl (.int .u32 (((((((((vS (bkH (bgF 8) PF k) (rT (pk PF k) 64) r 7) + (((tu (vS (bkH (bgF 8) PF k) (rT (pk PF k) 64) r 4) 6) ^^^ (tu (vS (bkH (bgF 8) PF k) (rT (pk PF k) 64) r 4) 11)) ^^^ (tu (vS (bkH (bgF 8) PF k) (rT (pk PF k) 64) r 4) 25))) % B32) + ((((vS (bkH (bgF 8) PF k) (rT (pk PF k) 64) r 4) &&& (vS (bkH (bgF 8) PF k) (rT (pk PF k) 64) r 5)) + ((4294967295 - (vS (bkH (bgF 8) PF k) (rT (pk PF k) 64) r 4)) &&& (vS (bkH (bgF 8) PF k) (rT (pk PF k) 64) r 6))) % B32)) % B32) + ((cu r) / 2 ^ 32)) % B32) : Nat) : Int))), (147, .inl (.int .i64 ((r : Nat) : Int))), (148, .inr (5, pt r)), (149, .inl (.int .u32 (((rT (pk PF k) 64 r) : Nat) : Int))), (150, .inl (.int .u32 (((((((((((vS (bkH (bgF 8) PF k) (rT (pk PF k) 64) r 7) + (((tu (vS (bkH (bgF 8) PF k) (rT (pk PF k) 64) r 4) 6) ^^^ (tu (vS (bkH (bgF 8) PF k) (rT (pk PF k) 64) r 4) 11)) ^^^ (tu (vS (bkH (bgF 8) PF k) (rT (pk PF k) 64) r 4) 25))) % B32) + ((((vS (bkH (bgF 8) PF k) (rT (pk PF k) 64) r 4) &&& (vS (bkH (bgF 8) PF k) (rT (pk PF k) 64) r 5)) + ((4294967295 - (vS (bkH (bgF 8) PF k) (rT (pk PF k) 64) r 4)) &&& (vS (bkH (bgF 8) PF k) (rT (pk PF k) 64) r 6))) % B32)) % B32) + ((cu r) / 2 ^ 32)) % B32) + (rT (pk PF k) 64 r)) % B32) : Nat) : Int))), (18, .inl (.int .u32 (((((((((((vS (bkH (bgF 8) PF k) (rT (pk PF k) 64) r 7) + (((tu (vS (bkH (bgF 8) PF k) (rT (pk PF k) 64) r 4) 6) ^^^ (tu (vS (bkH (bgF 8) PF k) (rT (pk PF k) 64) r 4) 11)) ^^^ (tu (vS (bkH (bgF 8) PF k) (rT (pk PF k) 64) r 4) 25))) % B32) + ((((vS (bkH (bgF 8) PF k) (rT (pk PF k) 64) r 4) &&& (vS (bkH (bgF 8) PF k) (rT (pk PF k) 64) r 5)) + ((4294967295 - (vS (bkH (bgF 8) PF k) (rT (pk PF k) 64) r 4)) &&& (vS (bkH (bgF 8) PF k) (rT (pk PF k) 64) r 6))) % B32)) % B32) + ((cu r) / 2 ^ 32)) % B32) + (rT (pk PF k) 64 r)) % B32) : Nat) : Int)))] [nn, eR 6, nn, nn, nn, nn, nn, nn, nn, nn, nn, nn, nn, eR 6, nn, nn, nn, nn, eR 6, nn, nn, nn, nn, nn, nn, eR 3, nn, nn, nn, nn, nn, eR 5] ?_ ?_
          · exact oc (k_ia 6 0 7 (.int .i64 ((7 : Nat) : Int)) (ix8h (i := 7) (by omega)) rfl rfl) <|
            oc (k_ld 6 7 (.int .u32 (((vS (bkH (bgF 8) PF k) (rT (pk PF k) 64) r 7) : Nat) : Int)) (c := aw 8 (vS (bkH (bgF 8) PF k) (rT (pk PF k) 64) r)) (ld_aw (n := 8) (F := (vS (bkH (bgF 8) PF k) (rT (pk PF k) 64) r)) (i := 7) (t0 := 99) (by omega)) rfl rfl) <|
            oc (k_mv (.inl rfl) rfl) <|
            oc (k_ca 68 #[.int .u32 (((vS (bkH (bgF 8) PF k) (rT (pk PF k) 64) r 4) : Nat) : Int), .int .u64 ((6 : Nat) : Int)] (.int .u32 (((tu (vS (bkH (bgF 8) PF k) (rT (pk PF k) 64) r 4) 6) : Nat) : Int)) (right_k (vS_lt hH _ _) (by decide)) rfl rfl) <|
            oc (k_mv (.inl rfl) rfl) <|
            oc (k_ca 68 #[.int .u32 (((vS (bkH (bgF 8) PF k) (rT (pk PF k) 64) r 4) : Nat) : Int), .int .u64 ((11 : Nat) : Int)] (.int .u32 (((tu (vS (bkH (bgF 8) PF k) (rT (pk PF k) 64) r 4) 11) : Nat) : Int)) (right_k (vS_lt hH _ _) (by decide)) rfl rfl) <|
            oc (k_bi (.int .u32 (((tu (vS (bkH (bgF 8) PF k) (rT (pk PF k) 64) r 4) 6) : Nat) : Int)) (.int .u32 (((tu (vS (bkH (bgF 8) PF k) (rT (pk PF k) 64) r 4) 11) : Nat) : Int)) (.int .u32 ((((tu (vS (bkH (bgF 8) PF k) (rT (pk PF k) 64) r 4) 6) ^^^ (tu (vS (bkH (bgF 8) PF k) (rT (pk PF k) 64) r 4) 11)) : Nat) : Int)) (xor_w (m := (tu (vS (bkH (bgF 8) PF k) (rT (pk PF k) 64) r 4) 6)) (n := (tu (vS (bkH (bgF 8) PF k) (rT (pk PF k) 64) r 4) 11)) (tu_lt (vS_lt hH _ _)) (tu_lt (vS_lt hH _ _))) rfl rfl) <|
            oc (k_mv (.inl rfl) rfl) <|
            oc (k_ca 68 #[.int .u32 (((vS (bkH (bgF 8) PF k) (rT (pk PF k) 64) r 4) : Nat) : Int), .int .u64 ((25 : Nat) : Int)] (.int .u32 (((tu (vS (bkH (bgF 8) PF k) (rT (pk PF k) 64) r 4) 25) : Nat) : Int)) (right_k (vS_lt hH _ _) (by decide)) rfl rfl) <|
            oc (k_bi (.int .u32 ((((tu (vS (bkH (bgF 8) PF k) (rT (pk PF k) 64) r 4) 6) ^^^ (tu (vS (bkH (bgF 8) PF k) (rT (pk PF k) 64) r 4) 11)) : Nat) : Int)) (.int .u32 (((tu (vS (bkH (bgF 8) PF k) (rT (pk PF k) 64) r 4) 25) : Nat) : Int)) (.int .u32 (((((tu (vS (bkH (bgF 8) PF k) (rT (pk PF k) 64) r 4) 6) ^^^ (tu (vS (bkH (bgF 8) PF k) (rT (pk PF k) 64) r 4) 11)) ^^^ (tu (vS (bkH (bgF 8) PF k) (rT (pk PF k) 64) r 4) 25)) : Nat) : Int)) (xor_w (m := ((tu (vS (bkH (bgF 8) PF k) (rT (pk PF k) 64) r 4) 6) ^^^ (tu (vS (bkH (bgF 8) PF k) (rT (pk PF k) 64) r 4) 11))) (n := (tu (vS (bkH (bgF 8) PF k) (rT (pk PF k) 64) r 4) 25)) (xor_lt (tu_lt (vS_lt hH _ _)) (tu_lt (vS_lt hH _ _))) (tu_lt (vS_lt hH _ _))) rfl rfl) <|
            oc (k_bi (.int .u32 (((vS (bkH (bgF 8) PF k) (rT (pk PF k) 64) r 7) : Nat) : Int)) (.int .u32 (((((tu (vS (bkH (bgF 8) PF k) (rT (pk PF k) 64) r 4) 6) ^^^ (tu (vS (bkH (bgF 8) PF k) (rT (pk PF k) 64) r 4) 11)) ^^^ (tu (vS (bkH (bgF 8) PF k) (rT (pk PF k) 64) r 4) 25)) : Nat) : Int)) (.int .u32 (((((vS (bkH (bgF 8) PF k) (rT (pk PF k) 64) r 7) + (((tu (vS (bkH (bgF 8) PF k) (rT (pk PF k) 64) r 4) 6) ^^^ (tu (vS (bkH (bgF 8) PF k) (rT (pk PF k) 64) r 4) 11)) ^^^ (tu (vS (bkH (bgF 8) PF k) (rT (pk PF k) 64) r 4) 25))) % B32) : Nat) : Int)) (ad_w (m := (vS (bkH (bgF 8) PF k) (rT (pk PF k) 64) r 7)) (n := (((tu (vS (bkH (bgF 8) PF k) (rT (pk PF k) 64) r 4) 6) ^^^ (tu (vS (bkH (bgF 8) PF k) (rT (pk PF k) 64) r 4) 11)) ^^^ (tu (vS (bkH (bgF 8) PF k) (rT (pk PF k) 64) r 4) 25)))) rfl rfl) <|
            oc (k_mv (.inl rfl) rfl) <|
            oc (k_ia 6 0 5 (.int .i64 ((5 : Nat) : Int)) (ix8h (i := 5) (by omega)) rfl rfl) <|
            oc (k_ld 6 5 (.int .u32 (((vS (bkH (bgF 8) PF k) (rT (pk PF k) 64) r 5) : Nat) : Int)) (c := aw 8 (vS (bkH (bgF 8) PF k) (rT (pk PF k) 64) r)) (ld_aw (n := 8) (F := (vS (bkH (bgF 8) PF k) (rT (pk PF k) 64) r)) (i := 5) (t0 := 99) (by omega)) rfl rfl) <|
            oc (k_bi (.int .u32 (((vS (bkH (bgF 8) PF k) (rT (pk PF k) 64) r 4) : Nat) : Int)) (.int .u32 (((vS (bkH (bgF 8) PF k) (rT (pk PF k) 64) r 5) : Nat) : Int)) (.int .u32 ((((vS (bkH (bgF 8) PF k) (rT (pk PF k) 64) r 4) &&& (vS (bkH (bgF 8) PF k) (rT (pk PF k) 64) r 5)) : Nat) : Int)) (and_w (m := (vS (bkH (bgF 8) PF k) (rT (pk PF k) 64) r 4)) (n := (vS (bkH (bgF 8) PF k) (rT (pk PF k) 64) r 5)) (vS_lt hH _ _) (vS_lt hH _ _)) rfl rfl) <|
            oc (k_mv (.inl rfl) rfl) <|
            oc (k_bi (.int .u32 ((4294967295 : Nat) : Int)) (.int .u32 (((vS (bkH (bgF 8) PF k) (rT (pk PF k) 64) r 4) : Nat) : Int)) (.int .u32 (((4294967295 - (vS (bkH (bgF 8) PF k) (rT (pk PF k) 64) r 4)) : Nat) : Int)) (sb_m (n := (vS (bkH (bgF 8) PF k) (rT (pk PF k) 64) r 4)) (vS_lt hH _ _)) rfl rfl) <|
            oc (k_ia 6 0 6 (.int .i64 ((6 : Nat) : Int)) (ix8h (i := 6) (by omega)) rfl rfl) <|
            oc (k_ld 6 6 (.int .u32 (((vS (bkH (bgF 8) PF k) (rT (pk PF k) 64) r 6) : Nat) : Int)) (c := aw 8 (vS (bkH (bgF 8) PF k) (rT (pk PF k) 64) r)) (ld_aw (n := 8) (F := (vS (bkH (bgF 8) PF k) (rT (pk PF k) 64) r)) (i := 6) (t0 := 99) (by omega)) rfl rfl) <|
            oc (k_bi (.int .u32 (((4294967295 - (vS (bkH (bgF 8) PF k) (rT (pk PF k) 64) r 4)) : Nat) : Int)) (.int .u32 (((vS (bkH (bgF 8) PF k) (rT (pk PF k) 64) r 6) : Nat) : Int)) (.int .u32 ((((4294967295 - (vS (bkH (bgF 8) PF k) (rT (pk PF k) 64) r 4)) &&& (vS (bkH (bgF 8) PF k) (rT (pk PF k) 64) r 6)) : Nat) : Int)) (and_w (m := (4294967295 - (vS (bkH (bgF 8) PF k) (rT (pk PF k) 64) r 4))) (n := (vS (bkH (bgF 8) PF k) (rT (pk PF k) 64) r 6)) (um_lt _) (vS_lt hH _ _)) rfl rfl) <|
            oc (k_bi (.int .u32 ((((vS (bkH (bgF 8) PF k) (rT (pk PF k) 64) r 4) &&& (vS (bkH (bgF 8) PF k) (rT (pk PF k) 64) r 5)) : Nat) : Int)) (.int .u32 ((((4294967295 - (vS (bkH (bgF 8) PF k) (rT (pk PF k) 64) r 4)) &&& (vS (bkH (bgF 8) PF k) (rT (pk PF k) 64) r 6)) : Nat) : Int)) (.int .u32 ((((((vS (bkH (bgF 8) PF k) (rT (pk PF k) 64) r 4) &&& (vS (bkH (bgF 8) PF k) (rT (pk PF k) 64) r 5)) + ((4294967295 - (vS (bkH (bgF 8) PF k) (rT (pk PF k) 64) r 4)) &&& (vS (bkH (bgF 8) PF k) (rT (pk PF k) 64) r 6))) % B32) : Nat) : Int)) (ad_w (m := ((vS (bkH (bgF 8) PF k) (rT (pk PF k) 64) r 4) &&& (vS (bkH (bgF 8) PF k) (rT (pk PF k) 64) r 5))) (n := ((4294967295 - (vS (bkH (bgF 8) PF k) (rT (pk PF k) 64) r 4)) &&& (vS (bkH (bgF 8) PF k) (rT (pk PF k) 64) r 6)))) rfl rfl) <|
            oc (k_bi (.int .u32 (((((vS (bkH (bgF 8) PF k) (rT (pk PF k) 64) r 7) + (((tu (vS (bkH (bgF 8) PF k) (rT (pk PF k) 64) r 4) 6) ^^^ (tu (vS (bkH (bgF 8) PF k) (rT (pk PF k) 64) r 4) 11)) ^^^ (tu (vS (bkH (bgF 8) PF k) (rT (pk PF k) 64) r 4) 25))) % B32) : Nat) : Int)) (.int .u32 ((((((vS (bkH (bgF 8) PF k) (rT (pk PF k) 64) r 4) &&& (vS (bkH (bgF 8) PF k) (rT (pk PF k) 64) r 5)) + ((4294967295 - (vS (bkH (bgF 8) PF k) (rT (pk PF k) 64) r 4)) &&& (vS (bkH (bgF 8) PF k) (rT (pk PF k) 64) r 6))) % B32) : Nat) : Int)) (.int .u32 (((((((vS (bkH (bgF 8) PF k) (rT (pk PF k) 64) r 7) + (((tu (vS (bkH (bgF 8) PF k) (rT (pk PF k) 64) r 4) 6) ^^^ (tu (vS (bkH (bgF 8) PF k) (rT (pk PF k) 64) r 4) 11)) ^^^ (tu (vS (bkH (bgF 8) PF k) (rT (pk PF k) 64) r 4) 25))) % B32) + ((((vS (bkH (bgF 8) PF k) (rT (pk PF k) 64) r 4) &&& (vS (bkH (bgF 8) PF k) (rT (pk PF k) 64) r 5)) + ((4294967295 - (vS (bkH (bgF 8) PF k) (rT (pk PF k) 64) r 4)) &&& (vS (bkH (bgF 8) PF k) (rT (pk PF k) 64) r 6))) % B32)) % B32) : Nat) : Int)) (ad_w (m := (((vS (bkH (bgF 8) PF k) (rT (pk PF k) 64) r 7) + (((tu (vS (bkH (bgF 8) PF k) (rT (pk PF k) 64) r 4) 6) ^^^ (tu (vS (bkH (bgF 8) PF k) (rT (pk PF k) 64) r 4) 11)) ^^^ (tu (vS (bkH (bgF 8) PF k) (rT (pk PF k) 64) r 4) 25))) % B32)) (n := ((((vS (bkH (bgF 8) PF k) (rT (pk PF k) 64) r 4) &&& (vS (bkH (bgF 8) PF k) (rT (pk PF k) 64) r 5)) + ((4294967295 - (vS (bkH (bgF 8) PF k) (rT (pk PF k) 64) r 4)) &&& (vS (bkH (bgF 8) PF k) (rT (pk PF k) 64) r 6))) % B32))) rfl rfl) <|
            oc (k_mp 3 (sl 0 80 80) (.inl rfl) rfl) <|
            oc (k_mv (.inl rfl) rfl) <|
            oc (k_ib 3 ((0 + r)) (sl 0 80 80) (.int .i64 ((r : Nat) : Int)) (ix_pq (i := r) (by omega)) rfl rfl) <|
            oc (k_ld 3 ((0 + r)) (.int .u64 (((cu r) : Nat) : Int)) (c := au 80 cu) (ld_au0 (n := 80) (F := cu) (i := r) (t0 := 102) (by omega)) rfl rfl) <|
            oc (k_bi (.int .u64 (((cu r) : Nat) : Int)) (.int .u64 ((32 : Nat) : Int)) (.int .u64 ((((cu r) / 2 ^ 32) : Nat) : Int)) (sr_qu (m := (cu r)) (r := 32) (by decide)) rfl rfl) <|
            oc (k_co (.int .u64 ((((cu r) / 2 ^ 32) : Nat) : Int)) (.int .u32 ((((cu r) / 2 ^ 32) : Nat) : Int)) (cv_q (n := ((cu r) / 2 ^ 32)) (cu_hi _)) rfl rfl) <|
            oc (k_bi (.int .u32 (((((((vS (bkH (bgF 8) PF k) (rT (pk PF k) 64) r 7) + (((tu (vS (bkH (bgF 8) PF k) (rT (pk PF k) 64) r 4) 6) ^^^ (tu (vS (bkH (bgF 8) PF k) (rT (pk PF k) 64) r 4) 11)) ^^^ (tu (vS (bkH (bgF 8) PF k) (rT (pk PF k) 64) r 4) 25))) % B32) + ((((vS (bkH (bgF 8) PF k) (rT (pk PF k) 64) r 4) &&& (vS (bkH (bgF 8) PF k) (rT (pk PF k) 64) r 5)) + ((4294967295 - (vS (bkH (bgF 8) PF k) (rT (pk PF k) 64) r 4)) &&& (vS (bkH (bgF 8) PF k) (rT (pk PF k) 64) r 6))) % B32)) % B32) : Nat) : Int)) (.int .u32 ((((cu r) / 2 ^ 32) : Nat) : Int)) (.int .u32 (((((((((vS (bkH (bgF 8) PF k) (rT (pk PF k) 64) r 7) + (((tu (vS (bkH (bgF 8) PF k) (rT (pk PF k) 64) r 4) 6) ^^^ (tu (vS (bkH (bgF 8) PF k) (rT (pk PF k) 64) r 4) 11)) ^^^ (tu (vS (bkH (bgF 8) PF k) (rT (pk PF k) 64) r 4) 25))) % B32) + ((((vS (bkH (bgF 8) PF k) (rT (pk PF k) 64) r 4) &&& (vS (bkH (bgF 8) PF k) (rT (pk PF k) 64) r 5)) + ((4294967295 - (vS (bkH (bgF 8) PF k) (rT (pk PF k) 64) r 4)) &&& (vS (bkH (bgF 8) PF k) (rT (pk PF k) 64) r 6))) % B32)) % B32) + ((cu r) / 2 ^ 32)) % B32) : Nat) : Int)) (ad_w (m := (((((vS (bkH (bgF 8) PF k) (rT (pk PF k) 64) r 7) + (((tu (vS (bkH (bgF 8) PF k) (rT (pk PF k) 64) r 4) 6) ^^^ (tu (vS (bkH (bgF 8) PF k) (rT (pk PF k) 64) r 4) 11)) ^^^ (tu (vS (bkH (bgF 8) PF k) (rT (pk PF k) 64) r 4) 25))) % B32) + ((((vS (bkH (bgF 8) PF k) (rT (pk PF k) 64) r 4) &&& (vS (bkH (bgF 8) PF k) (rT (pk PF k) 64) r 5)) + ((4294967295 - (vS (bkH (bgF 8) PF k) (rT (pk PF k) 64) r 4)) &&& (vS (bkH (bgF 8) PF k) (rT (pk PF k) 64) r 6))) % B32)) % B32)) (n := ((cu r) / 2 ^ 32))) rfl rfl) <|
            oc (k_mv (.inl rfl) rfl) <|
            oc (k_ia 5 0 r (.int .i64 ((r : Nat) : Int)) (ix64 (i := r) (by omega)) rfl rfl) <|
            oc (k_ld 5 r (.int .u32 (((rT (pk PF k) 64 r) : Nat) : Int)) (c := aw 64 (rT (pk PF k) 64)) (ld_aw (n := 64) (F := (rT (pk PF k) 64)) (i := r) (t0 := 104) (by omega)) rfl rfl) <|
            oz (k_bi (.int .u32 (((((((((vS (bkH (bgF 8) PF k) (rT (pk PF k) 64) r 7) + (((tu (vS (bkH (bgF 8) PF k) (rT (pk PF k) 64) r 4) 6) ^^^ (tu (vS (bkH (bgF 8) PF k) (rT (pk PF k) 64) r 4) 11)) ^^^ (tu (vS (bkH (bgF 8) PF k) (rT (pk PF k) 64) r 4) 25))) % B32) + ((((vS (bkH (bgF 8) PF k) (rT (pk PF k) 64) r 4) &&& (vS (bkH (bgF 8) PF k) (rT (pk PF k) 64) r 5)) + ((4294967295 - (vS (bkH (bgF 8) PF k) (rT (pk PF k) 64) r 4)) &&& (vS (bkH (bgF 8) PF k) (rT (pk PF k) 64) r 6))) % B32)) % B32) + ((cu r) / 2 ^ 32)) % B32) : Nat) : Int)) (.int .u32 (((rT (pk PF k) 64 r) : Nat) : Int)) (.int .u32 (((((((((((vS (bkH (bgF 8) PF k) (rT (pk PF k) 64) r 7) + (((tu (vS (bkH (bgF 8) PF k) (rT (pk PF k) 64) r 4) 6) ^^^ (tu (vS (bkH (bgF 8) PF k) (rT (pk PF k) 64) r 4) 11)) ^^^ (tu (vS (bkH (bgF 8) PF k) (rT (pk PF k) 64) r 4) 25))) % B32) + ((((vS (bkH (bgF 8) PF k) (rT (pk PF k) 64) r 4) &&& (vS (bkH (bgF 8) PF k) (rT (pk PF k) 64) r 5)) + ((4294967295 - (vS (bkH (bgF 8) PF k) (rT (pk PF k) 64) r 4)) &&& (vS (bkH (bgF 8) PF k) (rT (pk PF k) 64) r 6))) % B32)) % B32) + ((cu r) / 2 ^ 32)) % B32) + (rT (pk PF k) 64 r)) % B32) : Nat) : Int)) (ad_w (m := (((((((vS (bkH (bgF 8) PF k) (rT (pk PF k) 64) r 7) + (((tu (vS (bkH (bgF 8) PF k) (rT (pk PF k) 64) r 4) 6) ^^^ (tu (vS (bkH (bgF 8) PF k) (rT (pk PF k) 64) r 4) 11)) ^^^ (tu (vS (bkH (bgF 8) PF k) (rT (pk PF k) 64) r 4) 25))) % B32) + ((((vS (bkH (bgF 8) PF k) (rT (pk PF k) 64) r 4) &&& (vS (bkH (bgF 8) PF k) (rT (pk PF k) 64) r 5)) + ((4294967295 - (vS (bkH (bgF 8) PF k) (rT (pk PF k) 64) r 4)) &&& (vS (bkH (bgF 8) PF k) (rT (pk PF k) 64) r 6))) % B32)) % B32) + ((cu r) / 2 ^ 32)) % B32)) (n := (rT (pk PF k) 64 r))) rfl rfl) <|
            oz (k_mv (.inr rfl) rfl) <|
            ok_nil
          clear h; intro β a w h
          refine sym_then ?_
          refine sym_seq ?_
          refine St.r0 h [(151, .inl (.int .u32 (((vS (bkH (bgF 8) PF k) (rT (pk PF k) 64) r 0) : Nat) : Int))), (152, .inl (.int .u32 (((tu (vS (bkH (bgF 8) PF k) (rT (pk PF k) 64) r 0) 2) : Nat) : Int))), (153, .inl (.int .u32 (((vS (bkH (bgF 8) PF k) (rT (pk PF k) 64) r 0) : Nat) : Int))), (154, .inl (.int .u32 (((tu (vS (bkH (bgF 8) PF k) (rT (pk PF k) 64) r 0) 13) : Nat) : Int))), (155, .inl (.int .u32 ((((tu (vS (bkH (bgF 8) PF k) (rT (pk PF k) 64) r 0) 2) ^^^ (tu (vS (bkH (bgF 8) PF k) (rT (pk PF k) 64) r 0) 13)) : Nat) : Int))), (156, .inl (.int .u32 (((vS (bkH (bgF 8) PF k) (rT (pk PF k) 64) r 0) : Nat) : Int))), (157, .inl (.int .u32 (((tu (vS (bkH (bgF 8) PF k) (rT (pk PF k) 64) r 0) 22) : Nat) : Int))), (158, .inl (.int .u32 (((((tu (vS (bkH (bgF 8) PF k) (rT (pk PF k) 64) r 0) 2) ^^^ (tu (vS (bkH (bgF 8) PF k) (rT (pk PF k) 64) r 0) 13)) ^^^ (tu (vS (bkH (bgF 8) PF k) (rT (pk PF k) 64) r 0) 22)) : Nat) : Int))), (159, .inl (.int .u32 (((vS (bkH (bgF 8) PF k) (rT (pk PF k) 64) r 0) : Nat) : Int))), (160, .inr (6, pt 1)), (161, .inl (.int .u32 (((vS (bkH (bgF 8) PF k) (rT (pk PF k) 64) r 1) : Nat) : Int))), (162, .inl (.int .u32 ((((vS (bkH (bgF 8) PF k) (rT (pk PF k) 64) r 0) &&& (vS (bkH (bgF 8) PF k) (rT (pk PF k) 64) r 1)) : Nat) : Int))), (163, .inl (.int .u32 (((vS (bkH (bgF 8) PF k) (rT (pk PF k) 64) r 0) : Nat) : Int))), (164, .inr (6, pt 2)), (165, .inl (.int .u32 (((vS (bkH (bgF 8) PF k) (rT (pk PF k) 64) r 2) : Nat) : Int))), (166, .inl (.int .u32 ((((vS (bkH (bgF 8) PF k) (rT (pk PF k) 64) r 0) &&& (vS (bkH (bgF 8) PF k) (rT (pk PF k) 64) r 2)) : Nat) : Int))), (167, .inl (.int .u32 (((((vS (bkH (bgF 8) PF k) (rT (pk PF k) 64) r 0) &&& (vS (bkH (bgF 8) PF k) (rT (pk PF k) 64) r 1)) ||| ((vS (bkH (bgF 8) PF k) (rT (pk PF k) 64) r 0) &&& (vS (bkH (bgF 8) PF k) (rT (pk PF k) 64) r 2))) : Nat) : Int))), (168, .inr (6, pt 1)), (169, .inl (.int .u32 (((vS (bkH (bgF 8) PF k) (rT (pk PF k) 64) r 1) : Nat) : Int))), (170, .inr (6, pt 2)), (171, .inl (.int .u32 (((vS (bkH (bgF 8) PF k) (rT (pk PF k) 64) r 2) : Nat) : Int))), (172, .inl (.int .u32 ((((vS (bkH (bgF 8) PF k) (rT (pk PF k) 64) r 1) &&& (vS (bkH (bgF 8) PF k) (rT (pk PF k) 64) r 2)) : Nat) : Int))), (173, .inl (.int .u32 ((((((vS (bkH (bgF 8) PF k) (rT (pk PF k) 64) r 0) &&& (vS (bkH (bgF 8) PF k) (rT (pk PF k) 64) r 1)) ||| ((vS (bkH (bgF 8) PF k) (rT (pk PF k) 64) r 0) &&& (vS (bkH (bgF 8) PF k) (rT (pk PF k) 64) r 2))) ||| ((vS (bkH (bgF 8) PF k) (rT (pk PF k) 64) r 1) &&& (vS (bkH (bgF 8) PF k) (rT (pk PF k) 64) r 2))) : Nat) : Int))), (174, .inl (.int .u32 (((((((tu (vS (bkH (bgF 8) PF k) (rT (pk PF k) 64) r 0) 2) ^^^ (tu (vS (bkH (bgF 8) PF k) (rT (pk PF k) 64) r 0) 13)) ^^^ (tu (vS (bkH (bgF 8) PF k) (rT (pk PF k) 64) r 0) 22)) + ((((vS (bkH (bgF 8) PF k) (rT (pk PF k) 64) r 0) &&& (vS (bkH (bgF 8) PF k) (rT (pk PF k) 64) r 1)) ||| ((vS (bkH (bgF 8) PF k) (rT (pk PF k) 64) r 0) &&& (vS (bkH (bgF 8) PF k) (rT (pk PF k) 64) r 2))) ||| ((vS (bkH (bgF 8) PF k) (rT (pk PF k) 64) r 1) &&& (vS (bkH (bgF 8) PF k) (rT (pk PF k) 64) r 2)))) % B32) : Nat) : Int))), (19, .inl (.int .u32 (((((((tu (vS (bkH (bgF 8) PF k) (rT (pk PF k) 64) r 0) 2) ^^^ (tu (vS (bkH (bgF 8) PF k) (rT (pk PF k) 64) r 0) 13)) ^^^ (tu (vS (bkH (bgF 8) PF k) (rT (pk PF k) 64) r 0) 22)) + ((((vS (bkH (bgF 8) PF k) (rT (pk PF k) 64) r 0) &&& (vS (bkH (bgF 8) PF k) (rT (pk PF k) 64) r 1)) ||| ((vS (bkH (bgF 8) PF k) (rT (pk PF k) 64) r 0) &&& (vS (bkH (bgF 8) PF k) (rT (pk PF k) 64) r 2))) ||| ((vS (bkH (bgF 8) PF k) (rT (pk PF k) 64) r 1) &&& (vS (bkH (bgF 8) PF k) (rT (pk PF k) 64) r 2)))) % B32) : Nat) : Int)))] [nn, nn, nn, nn, nn, nn, nn, nn, nn, nn, eR 6, nn, nn, nn, eR 6, nn, nn, nn, eR 6, nn, eR 6] ?_ ?_
          · exact oc (k_mv (.inl rfl) rfl) <|
            oc (k_ca 68 #[.int .u32 (((vS (bkH (bgF 8) PF k) (rT (pk PF k) 64) r 0) : Nat) : Int), .int .u64 ((2 : Nat) : Int)] (.int .u32 (((tu (vS (bkH (bgF 8) PF k) (rT (pk PF k) 64) r 0) 2) : Nat) : Int)) (right_k (vS_lt hH _ _) (by decide)) rfl rfl) <|
            oc (k_mv (.inl rfl) rfl) <|
            oc (k_ca 68 #[.int .u32 (((vS (bkH (bgF 8) PF k) (rT (pk PF k) 64) r 0) : Nat) : Int), .int .u64 ((13 : Nat) : Int)] (.int .u32 (((tu (vS (bkH (bgF 8) PF k) (rT (pk PF k) 64) r 0) 13) : Nat) : Int)) (right_k (vS_lt hH _ _) (by decide)) rfl rfl) <|
            oc (k_bi (.int .u32 (((tu (vS (bkH (bgF 8) PF k) (rT (pk PF k) 64) r 0) 2) : Nat) : Int)) (.int .u32 (((tu (vS (bkH (bgF 8) PF k) (rT (pk PF k) 64) r 0) 13) : Nat) : Int)) (.int .u32 ((((tu (vS (bkH (bgF 8) PF k) (rT (pk PF k) 64) r 0) 2) ^^^ (tu (vS (bkH (bgF 8) PF k) (rT (pk PF k) 64) r 0) 13)) : Nat) : Int)) (xor_w (m := (tu (vS (bkH (bgF 8) PF k) (rT (pk PF k) 64) r 0) 2)) (n := (tu (vS (bkH (bgF 8) PF k) (rT (pk PF k) 64) r 0) 13)) (tu_lt (vS_lt hH _ _)) (tu_lt (vS_lt hH _ _))) rfl rfl) <|
            oc (k_mv (.inl rfl) rfl) <|
            oc (k_ca 68 #[.int .u32 (((vS (bkH (bgF 8) PF k) (rT (pk PF k) 64) r 0) : Nat) : Int), .int .u64 ((22 : Nat) : Int)] (.int .u32 (((tu (vS (bkH (bgF 8) PF k) (rT (pk PF k) 64) r 0) 22) : Nat) : Int)) (right_k (vS_lt hH _ _) (by decide)) rfl rfl) <|
            oc (k_bi (.int .u32 ((((tu (vS (bkH (bgF 8) PF k) (rT (pk PF k) 64) r 0) 2) ^^^ (tu (vS (bkH (bgF 8) PF k) (rT (pk PF k) 64) r 0) 13)) : Nat) : Int)) (.int .u32 (((tu (vS (bkH (bgF 8) PF k) (rT (pk PF k) 64) r 0) 22) : Nat) : Int)) (.int .u32 (((((tu (vS (bkH (bgF 8) PF k) (rT (pk PF k) 64) r 0) 2) ^^^ (tu (vS (bkH (bgF 8) PF k) (rT (pk PF k) 64) r 0) 13)) ^^^ (tu (vS (bkH (bgF 8) PF k) (rT (pk PF k) 64) r 0) 22)) : Nat) : Int)) (xor_w (m := ((tu (vS (bkH (bgF 8) PF k) (rT (pk PF k) 64) r 0) 2) ^^^ (tu (vS (bkH (bgF 8) PF k) (rT (pk PF k) 64) r 0) 13))) (n := (tu (vS (bkH (bgF 8) PF k) (rT (pk PF k) 64) r 0) 22)) (xor_lt (tu_lt (vS_lt hH _ _)) (tu_lt (vS_lt hH _ _))) (tu_lt (vS_lt hH _ _))) rfl rfl) <|
            oc (k_mv (.inl rfl) rfl) <|
            oc (k_ia 6 0 1 (.int .i64 ((1 : Nat) : Int)) (ix8h (i := 1) (by omega)) rfl rfl) <|
            oc (k_ld 6 1 (.int .u32 (((vS (bkH (bgF 8) PF k) (rT (pk PF k) 64) r 1) : Nat) : Int)) (c := aw 8 (vS (bkH (bgF 8) PF k) (rT (pk PF k) 64) r)) (ld_aw (n := 8) (F := (vS (bkH (bgF 8) PF k) (rT (pk PF k) 64) r)) (i := 1) (t0 := 99) (by omega)) rfl rfl) <|
            oc (k_bi (.int .u32 (((vS (bkH (bgF 8) PF k) (rT (pk PF k) 64) r 0) : Nat) : Int)) (.int .u32 (((vS (bkH (bgF 8) PF k) (rT (pk PF k) 64) r 1) : Nat) : Int)) (.int .u32 ((((vS (bkH (bgF 8) PF k) (rT (pk PF k) 64) r 0) &&& (vS (bkH (bgF 8) PF k) (rT (pk PF k) 64) r 1)) : Nat) : Int)) (and_w (m := (vS (bkH (bgF 8) PF k) (rT (pk PF k) 64) r 0)) (n := (vS (bkH (bgF 8) PF k) (rT (pk PF k) 64) r 1)) (vS_lt hH _ _) (vS_lt hH _ _)) rfl rfl) <|
            oc (k_mv (.inl rfl) rfl) <|
            oc (k_ia 6 0 2 (.int .i64 ((2 : Nat) : Int)) (ix8h (i := 2) (by omega)) rfl rfl) <|
            oc (k_ld 6 2 (.int .u32 (((vS (bkH (bgF 8) PF k) (rT (pk PF k) 64) r 2) : Nat) : Int)) (c := aw 8 (vS (bkH (bgF 8) PF k) (rT (pk PF k) 64) r)) (ld_aw (n := 8) (F := (vS (bkH (bgF 8) PF k) (rT (pk PF k) 64) r)) (i := 2) (t0 := 99) (by omega)) rfl rfl) <|
            oc (k_bi (.int .u32 (((vS (bkH (bgF 8) PF k) (rT (pk PF k) 64) r 0) : Nat) : Int)) (.int .u32 (((vS (bkH (bgF 8) PF k) (rT (pk PF k) 64) r 2) : Nat) : Int)) (.int .u32 ((((vS (bkH (bgF 8) PF k) (rT (pk PF k) 64) r 0) &&& (vS (bkH (bgF 8) PF k) (rT (pk PF k) 64) r 2)) : Nat) : Int)) (and_w (m := (vS (bkH (bgF 8) PF k) (rT (pk PF k) 64) r 0)) (n := (vS (bkH (bgF 8) PF k) (rT (pk PF k) 64) r 2)) (vS_lt hH _ _) (vS_lt hH _ _)) rfl rfl) <|
            oc (k_bi (.int .u32 ((((vS (bkH (bgF 8) PF k) (rT (pk PF k) 64) r 0) &&& (vS (bkH (bgF 8) PF k) (rT (pk PF k) 64) r 1)) : Nat) : Int)) (.int .u32 ((((vS (bkH (bgF 8) PF k) (rT (pk PF k) 64) r 0) &&& (vS (bkH (bgF 8) PF k) (rT (pk PF k) 64) r 2)) : Nat) : Int)) (.int .u32 (((((vS (bkH (bgF 8) PF k) (rT (pk PF k) 64) r 0) &&& (vS (bkH (bgF 8) PF k) (rT (pk PF k) 64) r 1)) ||| ((vS (bkH (bgF 8) PF k) (rT (pk PF k) 64) r 0) &&& (vS (bkH (bgF 8) PF k) (rT (pk PF k) 64) r 2))) : Nat) : Int)) (or_w (m := ((vS (bkH (bgF 8) PF k) (rT (pk PF k) 64) r 0) &&& (vS (bkH (bgF 8) PF k) (rT (pk PF k) 64) r 1))) (n := ((vS (bkH (bgF 8) PF k) (rT (pk PF k) 64) r 0) &&& (vS (bkH (bgF 8) PF k) (rT (pk PF k) 64) r 2))) (and_lt (vS_lt hH _ _)) (and_lt (vS_lt hH _ _))) rfl rfl) <|
            oc (k_ia 6 0 1 (.int .i64 ((1 : Nat) : Int)) (ix8h (i := 1) (by omega)) rfl rfl) <|
            oc (k_ld 6 1 (.int .u32 (((vS (bkH (bgF 8) PF k) (rT (pk PF k) 64) r 1) : Nat) : Int)) (c := aw 8 (vS (bkH (bgF 8) PF k) (rT (pk PF k) 64) r)) (ld_aw (n := 8) (F := (vS (bkH (bgF 8) PF k) (rT (pk PF k) 64) r)) (i := 1) (t0 := 99) (by omega)) rfl rfl) <|
            oc (k_ia 6 0 2 (.int .i64 ((2 : Nat) : Int)) (ix8h (i := 2) (by omega)) rfl rfl) <|
            oc (k_ld 6 2 (.int .u32 (((vS (bkH (bgF 8) PF k) (rT (pk PF k) 64) r 2) : Nat) : Int)) (c := aw 8 (vS (bkH (bgF 8) PF k) (rT (pk PF k) 64) r)) (ld_aw (n := 8) (F := (vS (bkH (bgF 8) PF k) (rT (pk PF k) 64) r)) (i := 2) (t0 := 99) (by omega)) rfl rfl) <|
            oz (k_bi (.int .u32 (((vS (bkH (bgF 8) PF k) (rT (pk PF k) 64) r 1) : Nat) : Int)) (.int .u32 (((vS (bkH (bgF 8) PF k) (rT (pk PF k) 64) r 2) : Nat) : Int)) (.int .u32 ((((vS (bkH (bgF 8) PF k) (rT (pk PF k) 64) r 1) &&& (vS (bkH (bgF 8) PF k) (rT (pk PF k) 64) r 2)) : Nat) : Int)) (and_w (m := (vS (bkH (bgF 8) PF k) (rT (pk PF k) 64) r 1)) (n := (vS (bkH (bgF 8) PF k) (rT (pk PF k) 64) r 2)) (vS_lt hH _ _) (vS_lt hH _ _)) rfl rfl) <|
            oz (k_bi (.int .u32 (((((vS (bkH (bgF 8) PF k) (rT (pk PF k) 64) r 0) &&& (vS (bkH (bgF 8) PF k) (rT (pk PF k) 64) r 1)) ||| ((vS (bkH (bgF 8) PF k) (rT (pk PF k) 64) r 0) &&& (vS (bkH (bgF 8) PF k) (rT (pk PF k) 64) r 2))) : Nat) : Int)) (.int .u32 ((((vS (bkH (bgF 8) PF k) (rT (pk PF k) 64) r 1) &&& (vS (bkH (bgF 8) PF k) (rT (pk PF k) 64) r 2)) : Nat) : Int)) (.int .u32 ((((((vS (bkH (bgF 8) PF k) (rT (pk PF k) 64) r 0) &&& (vS (bkH (bgF 8) PF k) (rT (pk PF k) 64) r 1)) ||| ((vS (bkH (bgF 8) PF k) (rT (pk PF k) 64) r 0) &&& (vS (bkH (bgF 8) PF k) (rT (pk PF k) 64) r 2))) ||| ((vS (bkH (bgF 8) PF k) (rT (pk PF k) 64) r 1) &&& (vS (bkH (bgF 8) PF k) (rT (pk PF k) 64) r 2))) : Nat) : Int)) (or_w (m := (((vS (bkH (bgF 8) PF k) (rT (pk PF k) 64) r 0) &&& (vS (bkH (bgF 8) PF k) (rT (pk PF k) 64) r 1)) ||| ((vS (bkH (bgF 8) PF k) (rT (pk PF k) 64) r 0) &&& (vS (bkH (bgF 8) PF k) (rT (pk PF k) 64) r 2)))) (n := ((vS (bkH (bgF 8) PF k) (rT (pk PF k) 64) r 1) &&& (vS (bkH (bgF 8) PF k) (rT (pk PF k) 64) r 2))) (or_lt (and_lt (vS_lt hH _ _)) (and_lt (vS_lt hH _ _))) (and_lt (vS_lt hH _ _))) rfl rfl) <|
            oz (k_bi (.int .u32 (((((tu (vS (bkH (bgF 8) PF k) (rT (pk PF k) 64) r 0) 2) ^^^ (tu (vS (bkH (bgF 8) PF k) (rT (pk PF k) 64) r 0) 13)) ^^^ (tu (vS (bkH (bgF 8) PF k) (rT (pk PF k) 64) r 0) 22)) : Nat) : Int)) (.int .u32 ((((((vS (bkH (bgF 8) PF k) (rT (pk PF k) 64) r 0) &&& (vS (bkH (bgF 8) PF k) (rT (pk PF k) 64) r 1)) ||| ((vS (bkH (bgF 8) PF k) (rT (pk PF k) 64) r 0) &&& (vS (bkH (bgF 8) PF k) (rT (pk PF k) 64) r 2))) ||| ((vS (bkH (bgF 8) PF k) (rT (pk PF k) 64) r 1) &&& (vS (bkH (bgF 8) PF k) (rT (pk PF k) 64) r 2))) : Nat) : Int)) (.int .u32 (((((((tu (vS (bkH (bgF 8) PF k) (rT (pk PF k) 64) r 0) 2) ^^^ (tu (vS (bkH (bgF 8) PF k) (rT (pk PF k) 64) r 0) 13)) ^^^ (tu (vS (bkH (bgF 8) PF k) (rT (pk PF k) 64) r 0) 22)) + ((((vS (bkH (bgF 8) PF k) (rT (pk PF k) 64) r 0) &&& (vS (bkH (bgF 8) PF k) (rT (pk PF k) 64) r 1)) ||| ((vS (bkH (bgF 8) PF k) (rT (pk PF k) 64) r 0) &&& (vS (bkH (bgF 8) PF k) (rT (pk PF k) 64) r 2))) ||| ((vS (bkH (bgF 8) PF k) (rT (pk PF k) 64) r 1) &&& (vS (bkH (bgF 8) PF k) (rT (pk PF k) 64) r 2)))) % B32) : Nat) : Int)) (ad_w (m := (((tu (vS (bkH (bgF 8) PF k) (rT (pk PF k) 64) r 0) 2) ^^^ (tu (vS (bkH (bgF 8) PF k) (rT (pk PF k) 64) r 0) 13)) ^^^ (tu (vS (bkH (bgF 8) PF k) (rT (pk PF k) 64) r 0) 22))) (n := ((((vS (bkH (bgF 8) PF k) (rT (pk PF k) 64) r 0) &&& (vS (bkH (bgF 8) PF k) (rT (pk PF k) 64) r 1)) ||| ((vS (bkH (bgF 8) PF k) (rT (pk PF k) 64) r 0) &&& (vS (bkH (bgF 8) PF k) (rT (pk PF k) 64) r 2))) ||| ((vS (bkH (bgF 8) PF k) (rT (pk PF k) 64) r 1) &&& (vS (bkH (bgF 8) PF k) (rT (pk PF k) 64) r 2))))) rfl rfl) <|
            oz (k_mv (.inr rfl) rfl) <|
            ok_nil
          clear h; intro β a w h
          refine sym_then ?_
          refine St.rg h [(175, .inl (.int .u32 (((((((((((vS (bkH (bgF 8) PF k) (rT (pk PF k) 64) r 7) + (((tu (vS (bkH (bgF 8) PF k) (rT (pk PF k) 64) r 4) 6) ^^^ (tu (vS (bkH (bgF 8) PF k) (rT (pk PF k) 64) r 4) 11)) ^^^ (tu (vS (bkH (bgF 8) PF k) (rT (pk PF k) 64) r 4) 25))) % B32) + ((((vS (bkH (bgF 8) PF k) (rT (pk PF k) 64) r 4) &&& (vS (bkH (bgF 8) PF k) (rT (pk PF k) 64) r 5)) + ((4294967295 - (vS (bkH (bgF 8) PF k) (rT (pk PF k) 64) r 4)) &&& (vS (bkH (bgF 8) PF k) (rT (pk PF k) 64) r 6))) % B32)) % B32) + ((cu r) / 2 ^ 32)) % B32) + (rT (pk PF k) 64 r)) % B32) : Nat) : Int))), (176, .inl (.int .u32 (((((((tu (vS (bkH (bgF 8) PF k) (rT (pk PF k) 64) r 0) 2) ^^^ (tu (vS (bkH (bgF 8) PF k) (rT (pk PF k) 64) r 0) 13)) ^^^ (tu (vS (bkH (bgF 8) PF k) (rT (pk PF k) 64) r 0) 22)) + ((((vS (bkH (bgF 8) PF k) (rT (pk PF k) 64) r 0) &&& (vS (bkH (bgF 8) PF k) (rT (pk PF k) 64) r 1)) ||| ((vS (bkH (bgF 8) PF k) (rT (pk PF k) 64) r 0) &&& (vS (bkH (bgF 8) PF k) (rT (pk PF k) 64) r 2))) ||| ((vS (bkH (bgF 8) PF k) (rT (pk PF k) 64) r 1) &&& (vS (bkH (bgF 8) PF k) (rT (pk PF k) 64) r 2)))) % B32) : Nat) : Int))), (177, .inl (.int .u32 (((((((((((((vS (bkH (bgF 8) PF k) (rT (pk PF k) 64) r 7) + (((tu (vS (bkH (bgF 8) PF k) (rT (pk PF k) 64) r 4) 6) ^^^ (tu (vS (bkH (bgF 8) PF k) (rT (pk PF k) 64) r 4) 11)) ^^^ (tu (vS (bkH (bgF 8) PF k) (rT (pk PF k) 64) r 4) 25))) % B32) + ((((vS (bkH (bgF 8) PF k) (rT (pk PF k) 64) r 4) &&& (vS (bkH (bgF 8) PF k) (rT (pk PF k) 64) r 5)) + ((4294967295 - (vS (bkH (bgF 8) PF k) (rT (pk PF k) 64) r 4)) &&& (vS (bkH (bgF 8) PF k) (rT (pk PF k) 64) r 6))) % B32)) % B32) + ((cu r) / 2 ^ 32)) % B32) + (rT (pk PF k) 64 r)) % B32) + (((((tu (vS (bkH (bgF 8) PF k) (rT (pk PF k) 64) r 0) 2) ^^^ (tu (vS (bkH (bgF 8) PF k) (rT (pk PF k) 64) r 0) 13)) ^^^ (tu (vS (bkH (bgF 8) PF k) (rT (pk PF k) 64) r 0) 22)) + ((((vS (bkH (bgF 8) PF k) (rT (pk PF k) 64) r 0) &&& (vS (bkH (bgF 8) PF k) (rT (pk PF k) 64) r 1)) ||| ((vS (bkH (bgF 8) PF k) (rT (pk PF k) 64) r 0) &&& (vS (bkH (bgF 8) PF k) (rT (pk PF k) 64) r 2))) ||| ((vS (bkH (bgF 8) PF k) (rT (pk PF k) 64) r 1) &&& (vS (bkH (bgF 8) PF k) (rT (pk PF k) 64) r 2)))) % B32)) % B32) : Nat) : Int))), (178, .inr (6, pt 0)), (179, .inl (.int .u32 (((vS (bkH (bgF 8) PF k) (rT (pk PF k) 64) r 0) : Nat) : Int))), (180, .inr (6, pt 1)), (181, .inl (.int .u32 (((vS (bkH (bgF 8) PF k) (rT (pk PF k) 64) r 1) : Nat) : Int))), (182, .inr (6, pt 2)), (183, .inl (.int .u32 (((vS (bkH (bgF 8) PF k) (rT (pk PF k) 64) r 2) : Nat) : Int))), (184, .inr (6, pt 3)), (185, .inl (.int .u32 (((vS (bkH (bgF 8) PF k) (rT (pk PF k) 64) r 3) : Nat) : Int))), (186, .inl (.int .u32 (((((((((((vS (bkH (bgF 8) PF k) (rT (pk PF k) 64) r 7) + (((tu (vS (bkH (bgF 8) PF k) (rT (pk PF k) 64) r 4) 6) ^^^ (tu (vS (bkH (bgF 8) PF k) (rT (pk PF k) 64) r 4) 11)) ^^^ (tu (vS (bkH (bgF 8) PF k) (rT (pk PF k) 64) r 4) 25))) % B32) + ((((vS (bkH (bgF 8) PF k) (rT (pk PF k) 64) r 4) &&& (vS (bkH (bgF 8) PF k) (rT (pk PF k) 64) r 5)) + ((4294967295 - (vS (bkH (bgF 8) PF k) (rT (pk PF k) 64) r 4)) &&& (vS (bkH (bgF 8) PF k) (rT (pk PF k) 64) r 6))) % B32)) % B32) + ((cu r) / 2 ^ 32)) % B32) + (rT (pk PF k) 64 r)) % B32) : Nat) : Int))), (187, .inl (.int .u32 (((((vS (bkH (bgF 8) PF k) (rT (pk PF k) 64) r 3) + (((((((((vS (bkH (bgF 8) PF k) (rT (pk PF k) 64) r 7) + (((tu (vS (bkH (bgF 8) PF k) (rT (pk PF k) 64) r 4) 6) ^^^ (tu (vS (bkH (bgF 8) PF k) (rT (pk PF k) 64) r 4) 11)) ^^^ (tu (vS (bkH (bgF 8) PF k) (rT (pk PF k) 64) r 4) 25))) % B32) + ((((vS (bkH (bgF 8) PF k) (rT (pk PF k) 64) r 4) &&& (vS (bkH (bgF 8) PF k) (rT (pk PF k) 64) r 5)) + ((4294967295 - (vS (bkH (bgF 8) PF k) (rT (pk PF k) 64) r 4)) &&& (vS (bkH (bgF 8) PF k) (rT (pk PF k) 64) r 6))) % B32)) % B32) + ((cu r) / 2 ^ 32)) % B32) + (rT (pk PF k) 64 r)) % B32)) % B32) : Nat) : Int))), (188, .inr (6, pt 4)), (189, .inl (.int .u32 (((vS (bkH (bgF 8) PF k) (rT (pk PF k) 64) r 4) : Nat) : Int))), (190, .inr (6, pt 5)), (191, .inl (.int .u32 (((vS (bkH (bgF 8) PF k) (rT (pk PF k) 64) r 5) : Nat) : Int))), (192, .inr (6, pt 6)), (193, .inl (.int .u32 (((vS (bkH (bgF 8) PF k) (rT (pk PF k) 64) r 6) : Nat) : Int))), (194, .inl (.agg (aw 8 (g8 (((((((((((vS (bkH (bgF 8) PF k) (rT (pk PF k) 64) r 7) + (((tu (vS (bkH (bgF 8) PF k) (rT (pk PF k) 64) r 4) 6) ^^^ (tu (vS (bkH (bgF 8) PF k) (rT (pk PF k) 64) r 4) 11)) ^^^ (tu (vS (bkH (bgF 8) PF k) (rT (pk PF k) 64) r 4) 25))) % B32) + ((((vS (bkH (bgF 8) PF k) (rT (pk PF k) 64) r 4) &&& (vS (bkH (bgF 8) PF k) (rT (pk PF k) 64) r 5)) + ((4294967295 - (vS (bkH (bgF 8) PF k) (rT (pk PF k) 64) r 4)) &&& (vS (bkH (bgF 8) PF k) (rT (pk PF k) 64) r 6))) % B32)) % B32) + ((cu r) / 2 ^ 32)) % B32) + (rT (pk PF k) 64 r)) % B32) + (((((tu (vS (bkH (bgF 8) PF k) (rT (pk PF k) 64) r 0) 2) ^^^ (tu (vS (bkH (bgF 8) PF k) (rT (pk PF k) 64) r 0) 13)) ^^^ (tu (vS (bkH (bgF 8) PF k) (rT (pk PF k) 64) r 0) 22)) + ((((vS (bkH (bgF 8) PF k) (rT (pk PF k) 64) r 0) &&& (vS (bkH (bgF 8) PF k) (rT (pk PF k) 64) r 1)) ||| ((vS (bkH (bgF 8) PF k) (rT (pk PF k) 64) r 0) &&& (vS (bkH (bgF 8) PF k) (rT (pk PF k) 64) r 2))) ||| ((vS (bkH (bgF 8) PF k) (rT (pk PF k) 64) r 1) &&& (vS (bkH (bgF 8) PF k) (rT (pk PF k) 64) r 2)))) % B32)) % B32) (vS (bkH (bgF 8) PF k) (rT (pk PF k) 64) r 0) (vS (bkH (bgF 8) PF k) (rT (pk PF k) 64) r 1) (vS (bkH (bgF 8) PF k) (rT (pk PF k) 64) r 2) (((vS (bkH (bgF 8) PF k) (rT (pk PF k) 64) r 3) + (((((((((vS (bkH (bgF 8) PF k) (rT (pk PF k) 64) r 7) + (((tu (vS (bkH (bgF 8) PF k) (rT (pk PF k) 64) r 4) 6) ^^^ (tu (vS (bkH (bgF 8) PF k) (rT (pk PF k) 64) r 4) 11)) ^^^ (tu (vS (bkH (bgF 8) PF k) (rT (pk PF k) 64) r 4) 25))) % B32) + ((((vS (bkH (bgF 8) PF k) (rT (pk PF k) 64) r 4) &&& (vS (bkH (bgF 8) PF k) (rT (pk PF k) 64) r 5)) + ((4294967295 - (vS (bkH (bgF 8) PF k) (rT (pk PF k) 64) r 4)) &&& (vS (bkH (bgF 8) PF k) (rT (pk PF k) 64) r 6))) % B32)) % B32) + ((cu r) / 2 ^ 32)) % B32) + (rT (pk PF k) 64 r)) % B32)) % B32) (vS (bkH (bgF 8) PF k) (rT (pk PF k) 64) r 4) (vS (bkH (bgF 8) PF k) (rT (pk PF k) 64) r 5) (vS (bkH (bgF 8) PF k) (rT (pk PF k) 64) r 6)))))] [] [(6, aw 8 (g8 (((((((((((vS (bkH (bgF 8) PF k) (rT (pk PF k) 64) r 7) + (((tu (vS (bkH (bgF 8) PF k) (rT (pk PF k) 64) r 4) 6) ^^^ (tu (vS (bkH (bgF 8) PF k) (rT (pk PF k) 64) r 4) 11)) ^^^ (tu (vS (bkH (bgF 8) PF k) (rT (pk PF k) 64) r 4) 25))) % B32) + ((((vS (bkH (bgF 8) PF k) (rT (pk PF k) 64) r 4) &&& (vS (bkH (bgF 8) PF k) (rT (pk PF k) 64) r 5)) + ((4294967295 - (vS (bkH (bgF 8) PF k) (rT (pk PF k) 64) r 4)) &&& (vS (bkH (bgF 8) PF k) (rT (pk PF k) 64) r 6))) % B32)) % B32) + ((cu r) / 2 ^ 32)) % B32) + (rT (pk PF k) 64 r)) % B32) + (((((tu (vS (bkH (bgF 8) PF k) (rT (pk PF k) 64) r 0) 2) ^^^ (tu (vS (bkH (bgF 8) PF k) (rT (pk PF k) 64) r 0) 13)) ^^^ (tu (vS (bkH (bgF 8) PF k) (rT (pk PF k) 64) r 0) 22)) + ((((vS (bkH (bgF 8) PF k) (rT (pk PF k) 64) r 0) &&& (vS (bkH (bgF 8) PF k) (rT (pk PF k) 64) r 1)) ||| ((vS (bkH (bgF 8) PF k) (rT (pk PF k) 64) r 0) &&& (vS (bkH (bgF 8) PF k) (rT (pk PF k) 64) r 2))) ||| ((vS (bkH (bgF 8) PF k) (rT (pk PF k) 64) r 1) &&& (vS (bkH (bgF 8) PF k) (rT (pk PF k) 64) r 2)))) % B32)) % B32) (vS (bkH (bgF 8) PF k) (rT (pk PF k) 64) r 0) (vS (bkH (bgF 8) PF k) (rT (pk PF k) 64) r 1) (vS (bkH (bgF 8) PF k) (rT (pk PF k) 64) r 2) (((vS (bkH (bgF 8) PF k) (rT (pk PF k) 64) r 3) + (((((((((vS (bkH (bgF 8) PF k) (rT (pk PF k) 64) r 7) + (((tu (vS (bkH (bgF 8) PF k) (rT (pk PF k) 64) r 4) 6) ^^^ (tu (vS (bkH (bgF 8) PF k) (rT (pk PF k) 64) r 4) 11)) ^^^ (tu (vS (bkH (bgF 8) PF k) (rT (pk PF k) 64) r 4) 25))) % B32) + ((((vS (bkH (bgF 8) PF k) (rT (pk PF k) 64) r 4) &&& (vS (bkH (bgF 8) PF k) (rT (pk PF k) 64) r 5)) + ((4294967295 - (vS (bkH (bgF 8) PF k) (rT (pk PF k) 64) r 4)) &&& (vS (bkH (bgF 8) PF k) (rT (pk PF k) 64) r 6))) % B32)) % B32) + ((cu r) / 2 ^ 32)) % B32) + (rT (pk PF k) 64 r)) % B32)) % B32) (vS (bkH (bgF 8) PF k) (rT (pk PF k) 64) r 4) (vS (bkH (bgF 8) PF k) (rT (pk PF k) 64) r 5) (vS (bkH (bgF 8) PF k) (rT (pk PF k) 64) r 6)))] [nn, nn, nn, nn, eR 6, nn, eR 6, nn, eR 6, nn, eR 6, nn, nn, nn, eR 6, nn, eR 6, nn, eR 6, nn, eS 6] ?_ ?_
          · exact oc (k_mv (.inl rfl) rfl) <|
            oc (k_mv (.inl rfl) rfl) <|
            oc (k_bi (.int .u32 (((((((((((vS (bkH (bgF 8) PF k) (rT (pk PF k) 64) r 7) + (((tu (vS (bkH (bgF 8) PF k) (rT (pk PF k) 64) r 4) 6) ^^^ (tu (vS (bkH (bgF 8) PF k) (rT (pk PF k) 64) r 4) 11)) ^^^ (tu (vS (bkH (bgF 8) PF k) (rT (pk PF k) 64) r 4) 25))) % B32) + ((((vS (bkH (bgF 8) PF k) (rT (pk PF k) 64) r 4) &&& (vS (bkH (bgF 8) PF k) (rT (pk PF k) 64) r 5)) + ((4294967295 - (vS (bkH (bgF 8) PF k) (rT (pk PF k) 64) r 4)) &&& (vS (bkH (bgF 8) PF k) (rT (pk PF k) 64) r 6))) % B32)) % B32) + ((cu r) / 2 ^ 32)) % B32) + (rT (pk PF k) 64 r)) % B32) : Nat) : Int)) (.int .u32 (((((((tu (vS (bkH (bgF 8) PF k) (rT (pk PF k) 64) r 0) 2) ^^^ (tu (vS (bkH (bgF 8) PF k) (rT (pk PF k) 64) r 0) 13)) ^^^ (tu (vS (bkH (bgF 8) PF k) (rT (pk PF k) 64) r 0) 22)) + ((((vS (bkH (bgF 8) PF k) (rT (pk PF k) 64) r 0) &&& (vS (bkH (bgF 8) PF k) (rT (pk PF k) 64) r 1)) ||| ((vS (bkH (bgF 8) PF k) (rT (pk PF k) 64) r 0) &&& (vS (bkH (bgF 8) PF k) (rT (pk PF k) 64) r 2))) ||| ((vS (bkH (bgF 8) PF k) (rT (pk PF k) 64) r 1) &&& (vS (bkH (bgF 8) PF k) (rT (pk PF k) 64) r 2)))) % B32) : Nat) : Int)) (.int .u32 (((((((((((((vS (bkH (bgF 8) PF k) (rT (pk PF k) 64) r 7) + (((tu (vS (bkH (bgF 8) PF k) (rT (pk PF k) 64) r 4) 6) ^^^ (tu (vS (bkH (bgF 8) PF k) (rT (pk PF k) 64) r 4) 11)) ^^^ (tu (vS (bkH (bgF 8) PF k) (rT (pk PF k) 64) r 4) 25))) % B32) + ((((vS (bkH (bgF 8) PF k) (rT (pk PF k) 64) r 4) &&& (vS (bkH (bgF 8) PF k) (rT (pk PF k) 64) r 5)) + ((4294967295 - (vS (bkH (bgF 8) PF k) (rT (pk PF k) 64) r 4)) &&& (vS (bkH (bgF 8) PF k) (rT (pk PF k) 64) r 6))) % B32)) % B32) + ((cu r) / 2 ^ 32)) % B32) + (rT (pk PF k) 64 r)) % B32) + (((((tu (vS (bkH (bgF 8) PF k) (rT (pk PF k) 64) r 0) 2) ^^^ (tu (vS (bkH (bgF 8) PF k) (rT (pk PF k) 64) r 0) 13)) ^^^ (tu (vS (bkH (bgF 8) PF k) (rT (pk PF k) 64) r 0) 22)) + ((((vS (bkH (bgF 8) PF k) (rT (pk PF k) 64) r 0) &&& (vS (bkH (bgF 8) PF k) (rT (pk PF k) 64) r 1)) ||| ((vS (bkH (bgF 8) PF k) (rT (pk PF k) 64) r 0) &&& (vS (bkH (bgF 8) PF k) (rT (pk PF k) 64) r 2))) ||| ((vS (bkH (bgF 8) PF k) (rT (pk PF k) 64) r 1) &&& (vS (bkH (bgF 8) PF k) (rT (pk PF k) 64) r 2)))) % B32)) % B32) : Nat) : Int)) (ad_w (m := (((((((((vS (bkH (bgF 8) PF k) (rT (pk PF k) 64) r 7) + (((tu (vS (bkH (bgF 8) PF k) (rT (pk PF k) 64) r 4) 6) ^^^ (tu (vS (bkH (bgF 8) PF k) (rT (pk PF k) 64) r 4) 11)) ^^^ (tu (vS (bkH (bgF 8) PF k) (rT (pk PF k) 64) r 4) 25))) % B32) + ((((vS (bkH (bgF 8) PF k) (rT (pk PF k) 64) r 4) &&& (vS (bkH (bgF 8) PF k) (rT (pk PF k) 64) r 5)) + ((4294967295 - (vS (bkH (bgF 8) PF k) (rT (pk PF k) 64) r 4)) &&& (vS (bkH (bgF 8) PF k) (rT (pk PF k) 64) r 6))) % B32)) % B32) + ((cu r) / 2 ^ 32)) % B32) + (rT (pk PF k) 64 r)) % B32)) (n := (((((tu (vS (bkH (bgF 8) PF k) (rT (pk PF k) 64) r 0) 2) ^^^ (tu (vS (bkH (bgF 8) PF k) (rT (pk PF k) 64) r 0) 13)) ^^^ (tu (vS (bkH (bgF 8) PF k) (rT (pk PF k) 64) r 0) 22)) + ((((vS (bkH (bgF 8) PF k) (rT (pk PF k) 64) r 0) &&& (vS (bkH (bgF 8) PF k) (rT (pk PF k) 64) r 1)) ||| ((vS (bkH (bgF 8) PF k) (rT (pk PF k) 64) r 0) &&& (vS (bkH (bgF 8) PF k) (rT (pk PF k) 64) r 2))) ||| ((vS (bkH (bgF 8) PF k) (rT (pk PF k) 64) r 1) &&& (vS (bkH (bgF 8) PF k) (rT (pk PF k) 64) r 2)))) % B32))) rfl rfl) <|
            oc (k_ia 6 0 0 (.int .i64 ((0 : Nat) : Int)) (ix8h (i := 0) (by omega)) rfl rfl) <|
            oc (k_ld 6 0 (.int .u32 (((vS (bkH (bgF 8) PF k) (rT (pk PF k) 64) r 0) : Nat) : Int)) (c := aw 8 (vS (bkH (bgF 8) PF k) (rT (pk PF k) 64) r)) (ld_aw (n := 8) (F := (vS (bkH (bgF 8) PF k) (rT (pk PF k) 64) r)) (i := 0) (t0 := 99) (by omega)) rfl rfl) <|
            oc (k_ia 6 0 1 (.int .i64 ((1 : Nat) : Int)) (ix8h (i := 1) (by omega)) rfl rfl) <|
            oc (k_ld 6 1 (.int .u32 (((vS (bkH (bgF 8) PF k) (rT (pk PF k) 64) r 1) : Nat) : Int)) (c := aw 8 (vS (bkH (bgF 8) PF k) (rT (pk PF k) 64) r)) (ld_aw (n := 8) (F := (vS (bkH (bgF 8) PF k) (rT (pk PF k) 64) r)) (i := 1) (t0 := 99) (by omega)) rfl rfl) <|
            oc (k_ia 6 0 2 (.int .i64 ((2 : Nat) : Int)) (ix8h (i := 2) (by omega)) rfl rfl) <|
            oc (k_ld 6 2 (.int .u32 (((vS (bkH (bgF 8) PF k) (rT (pk PF k) 64) r 2) : Nat) : Int)) (c := aw 8 (vS (bkH (bgF 8) PF k) (rT (pk PF k) 64) r)) (ld_aw (n := 8) (F := (vS (bkH (bgF 8) PF k) (rT (pk PF k) 64) r)) (i := 2) (t0 := 99) (by omega)) rfl rfl) <|
            oc (k_ia 6 0 3 (.int .i64 ((3 : Nat) : Int)) (ix8h (i := 3) (by omega)) rfl rfl) <|
            oc (k_ld 6 3 (.int .u32 (((vS (bkH (bgF 8) PF k) (rT (pk PF k) 64) r 3) : Nat) : Int)) (c := aw 8 (vS (bkH (bgF 8) PF k) (rT (pk PF k) 64) r)) (ld_aw (n := 8) (F := (vS (bkH (bgF 8) PF k) (rT (pk PF k) 64) r)) (i := 3) (t0 := 99) (by omega)) rfl rfl) <|
            oc (k_mv (.inl rfl) rfl) <|
            oc (k_bi (.int .u32 (((vS (bkH (bgF 8) PF k) (rT (pk PF k) 64) r 3) : Nat) : Int)) (.int .u32 (((((((((((vS (bkH (bgF 8) PF k) (rT (pk PF k) 64) r 7) + (((tu (vS (bkH (bgF 8) PF k) (rT (pk PF k) 64) r 4) 6) ^^^ (tu (vS (bkH (bgF 8) PF k) (rT (pk PF k) 64) r 4) 11)) ^^^ (tu (vS (bkH (bgF 8) PF k) (rT (pk PF k) 64) r 4) 25))) % B32) + ((((vS (bkH (bgF 8) PF k) (rT (pk PF k) 64) r 4) &&& (vS (bkH (bgF 8) PF k) (rT (pk PF k) 64) r 5)) + ((4294967295 - (vS (bkH (bgF 8) PF k) (rT (pk PF k) 64) r 4)) &&& (vS (bkH (bgF 8) PF k) (rT (pk PF k) 64) r 6))) % B32)) % B32) + ((cu r) / 2 ^ 32)) % B32) + (rT (pk PF k) 64 r)) % B32) : Nat) : Int)) (.int .u32 (((((vS (bkH (bgF 8) PF k) (rT (pk PF k) 64) r 3) + (((((((((vS (bkH (bgF 8) PF k) (rT (pk PF k) 64) r 7) + (((tu (vS (bkH (bgF 8) PF k) (rT (pk PF k) 64) r 4) 6) ^^^ (tu (vS (bkH (bgF 8) PF k) (rT (pk PF k) 64) r 4) 11)) ^^^ (tu (vS (bkH (bgF 8) PF k) (rT (pk PF k) 64) r 4) 25))) % B32) + ((((vS (bkH (bgF 8) PF k) (rT (pk PF k) 64) r 4) &&& (vS (bkH (bgF 8) PF k) (rT (pk PF k) 64) r 5)) + ((4294967295 - (vS (bkH (bgF 8) PF k) (rT (pk PF k) 64) r 4)) &&& (vS (bkH (bgF 8) PF k) (rT (pk PF k) 64) r 6))) % B32)) % B32) + ((cu r) / 2 ^ 32)) % B32) + (rT (pk PF k) 64 r)) % B32)) % B32) : Nat) : Int)) (ad_w (m := (vS (bkH (bgF 8) PF k) (rT (pk PF k) 64) r 3)) (n := (((((((((vS (bkH (bgF 8) PF k) (rT (pk PF k) 64) r 7) + (((tu (vS (bkH (bgF 8) PF k) (rT (pk PF k) 64) r 4) 6) ^^^ (tu (vS (bkH (bgF 8) PF k) (rT (pk PF k) 64) r 4) 11)) ^^^ (tu (vS (bkH (bgF 8) PF k) (rT (pk PF k) 64) r 4) 25))) % B32) + ((((vS (bkH (bgF 8) PF k) (rT (pk PF k) 64) r 4) &&& (vS (bkH (bgF 8) PF k) (rT (pk PF k) 64) r 5)) + ((4294967295 - (vS (bkH (bgF 8) PF k) (rT (pk PF k) 64) r 4)) &&& (vS (bkH (bgF 8) PF k) (rT (pk PF k) 64) r 6))) % B32)) % B32) + ((cu r) / 2 ^ 32)) % B32) + (rT (pk PF k) 64 r)) % B32))) rfl rfl) <|
            oc (k_ia 6 0 4 (.int .i64 ((4 : Nat) : Int)) (ix8h (i := 4) (by omega)) rfl rfl) <|
            oc (k_ld 6 4 (.int .u32 (((vS (bkH (bgF 8) PF k) (rT (pk PF k) 64) r 4) : Nat) : Int)) (c := aw 8 (vS (bkH (bgF 8) PF k) (rT (pk PF k) 64) r)) (ld_aw (n := 8) (F := (vS (bkH (bgF 8) PF k) (rT (pk PF k) 64) r)) (i := 4) (t0 := 99) (by omega)) rfl rfl) <|
            oc (k_ia 6 0 5 (.int .i64 ((5 : Nat) : Int)) (ix8h (i := 5) (by omega)) rfl rfl) <|
            oc (k_ld 6 5 (.int .u32 (((vS (bkH (bgF 8) PF k) (rT (pk PF k) 64) r 5) : Nat) : Int)) (c := aw 8 (vS (bkH (bgF 8) PF k) (rT (pk PF k) 64) r)) (ld_aw (n := 8) (F := (vS (bkH (bgF 8) PF k) (rT (pk PF k) 64) r)) (i := 5) (t0 := 99) (by omega)) rfl rfl) <|
            oc (k_ia 6 0 6 (.int .i64 ((6 : Nat) : Int)) (ix8h (i := 6) (by omega)) rfl rfl) <|
            oc (k_ld 6 6 (.int .u32 (((vS (bkH (bgF 8) PF k) (rT (pk PF k) 64) r 6) : Nat) : Int)) (c := aw 8 (vS (bkH (bgF 8) PF k) (rT (pk PF k) 64) r)) (ld_aw (n := 8) (F := (vS (bkH (bgF 8) PF k) (rT (pk PF k) 64) r)) (i := 6) (t0 := 99) (by omega)) rfl rfl) <|
            oc (k_bu #[(0, .int .u32 (((((((((((((vS (bkH (bgF 8) PF k) (rT (pk PF k) 64) r 7) + (((tu (vS (bkH (bgF 8) PF k) (rT (pk PF k) 64) r 4) 6) ^^^ (tu (vS (bkH (bgF 8) PF k) (rT (pk PF k) 64) r 4) 11)) ^^^ (tu (vS (bkH (bgF 8) PF k) (rT (pk PF k) 64) r 4) 25))) % B32) + ((((vS (bkH (bgF 8) PF k) (rT (pk PF k) 64) r 4) &&& (vS (bkH (bgF 8) PF k) (rT (pk PF k) 64) r 5)) + ((4294967295 - (vS (bkH (bgF 8) PF k) (rT (pk PF k) 64) r 4)) &&& (vS (bkH (bgF 8) PF k) (rT (pk PF k) 64) r 6))) % B32)) % B32) + ((cu r) / 2 ^ 32)) % B32) + (rT (pk PF k) 64 r)) % B32) + (((((tu (vS (bkH (bgF 8) PF k) (rT (pk PF k) 64) r 0) 2) ^^^ (tu (vS (bkH (bgF 8) PF k) (rT (pk PF k) 64) r 0) 13)) ^^^ (tu (vS (bkH (bgF 8) PF k) (rT (pk PF k) 64) r 0) 22)) + ((((vS (bkH (bgF 8) PF k) (rT (pk PF k) 64) r 0) &&& (vS (bkH (bgF 8) PF k) (rT (pk PF k) 64) r 1)) ||| ((vS (bkH (bgF 8) PF k) (rT (pk PF k) 64) r 0) &&& (vS (bkH (bgF 8) PF k) (rT (pk PF k) 64) r 2))) ||| ((vS (bkH (bgF 8) PF k) (rT (pk PF k) 64) r 1) &&& (vS (bkH (bgF 8) PF k) (rT (pk PF k) 64) r 2)))) % B32)) % B32) : Nat) : Int)), (1, .int .u32 (((vS (bkH (bgF 8) PF k) (rT (pk PF k) 64) r 0) : Nat) : Int)), (2, .int .u32 (((vS (bkH (bgF 8) PF k) (rT (pk PF k) 64) r 1) : Nat) : Int)), (3, .int .u32 (((vS (bkH (bgF 8) PF k) (rT (pk PF k) 64) r 2) : Nat) : Int)), (4, .int .u32 (((((vS (bkH (bgF 8) PF k) (rT (pk PF k) 64) r 3) + (((((((((vS (bkH (bgF 8) PF k) (rT (pk PF k) 64) r 7) + (((tu (vS (bkH (bgF 8) PF k) (rT (pk PF k) 64) r 4) 6) ^^^ (tu (vS (bkH (bgF 8) PF k) (rT (pk PF k) 64) r 4) 11)) ^^^ (tu (vS (bkH (bgF 8) PF k) (rT (pk PF k) 64) r 4) 25))) % B32) + ((((vS (bkH (bgF 8) PF k) (rT (pk PF k) 64) r 4) &&& (vS (bkH (bgF 8) PF k) (rT (pk PF k) 64) r 5)) + ((4294967295 - (vS (bkH (bgF 8) PF k) (rT (pk PF k) 64) r 4)) &&& (vS (bkH (bgF 8) PF k) (rT (pk PF k) 64) r 6))) % B32)) % B32) + ((cu r) / 2 ^ 32)) % B32) + (rT (pk PF k) 64 r)) % B32)) % B32) : Nat) : Int)), (5, .int .u32 (((vS (bkH (bgF 8) PF k) (rT (pk PF k) 64) r 4) : Nat) : Int)), (6, .int .u32 (((vS (bkH (bgF 8) PF k) (rT (pk PF k) 64) r 5) : Nat) : Int)), (7, .int .u32 (((vS (bkH (bgF 8) PF k) (rT (pk PF k) 64) r 6) : Nat) : Int))] (.agg (aw 8 (g8 (((((((((((vS (bkH (bgF 8) PF k) (rT (pk PF k) 64) r 7) + (((tu (vS (bkH (bgF 8) PF k) (rT (pk PF k) 64) r 4) 6) ^^^ (tu (vS (bkH (bgF 8) PF k) (rT (pk PF k) 64) r 4) 11)) ^^^ (tu (vS (bkH (bgF 8) PF k) (rT (pk PF k) 64) r 4) 25))) % B32) + ((((vS (bkH (bgF 8) PF k) (rT (pk PF k) 64) r 4) &&& (vS (bkH (bgF 8) PF k) (rT (pk PF k) 64) r 5)) + ((4294967295 - (vS (bkH (bgF 8) PF k) (rT (pk PF k) 64) r 4)) &&& (vS (bkH (bgF 8) PF k) (rT (pk PF k) 64) r 6))) % B32)) % B32) + ((cu r) / 2 ^ 32)) % B32) + (rT (pk PF k) 64 r)) % B32) + (((((tu (vS (bkH (bgF 8) PF k) (rT (pk PF k) 64) r 0) 2) ^^^ (tu (vS (bkH (bgF 8) PF k) (rT (pk PF k) 64) r 0) 13)) ^^^ (tu (vS (bkH (bgF 8) PF k) (rT (pk PF k) 64) r 0) 22)) + ((((vS (bkH (bgF 8) PF k) (rT (pk PF k) 64) r 0) &&& (vS (bkH (bgF 8) PF k) (rT (pk PF k) 64) r 1)) ||| ((vS (bkH (bgF 8) PF k) (rT (pk PF k) 64) r 0) &&& (vS (bkH (bgF 8) PF k) (rT (pk PF k) 64) r 2))) ||| ((vS (bkH (bgF 8) PF k) (rT (pk PF k) 64) r 1) &&& (vS (bkH (bgF 8) PF k) (rT (pk PF k) 64) r 2)))) % B32)) % B32) (vS (bkH (bgF 8) PF k) (rT (pk PF k) 64) r 0) (vS (bkH (bgF 8) PF k) (rT (pk PF k) 64) r 1) (vS (bkH (bgF 8) PF k) (rT (pk PF k) 64) r 2) (((vS (bkH (bgF 8) PF k) (rT (pk PF k) 64) r 3) + (((((((((vS (bkH (bgF 8) PF k) (rT (pk PF k) 64) r 7) + (((tu (vS (bkH (bgF 8) PF k) (rT (pk PF k) 64) r 4) 6) ^^^ (tu (vS (bkH (bgF 8) PF k) (rT (pk PF k) 64) r 4) 11)) ^^^ (tu (vS (bkH (bgF 8) PF k) (rT (pk PF k) 64) r 4) 25))) % B32) + ((((vS (bkH (bgF 8) PF k) (rT (pk PF k) 64) r 4) &&& (vS (bkH (bgF 8) PF k) (rT (pk PF k) 64) r 5)) + ((4294967295 - (vS (bkH (bgF 8) PF k) (rT (pk PF k) 64) r 4)) &&& (vS (bkH (bgF 8) PF k) (rT (pk PF k) 64) r 6))) % B32)) % B32) + ((cu r) / 2 ^ 32)) % B32) + (rT (pk PF k) 64 r)) % B32)) % B32) (vS (bkH (bgF 8) PF k) (rT (pk PF k) 64) r 4) (vS (bkH (bgF 8) PF k) (rT (pk PF k) 64) r 5) (vS (bkH (bgF 8) PF k) (rT (pk PF k) 64) r 6)))) (fun w => by kernel_rfl) rfl rfl) <|
            oc (k_st 6 0 (.agg (aw 8 (g8 (((((((((((vS (bkH (bgF 8) PF k) (rT (pk PF k) 64) r 7) + (((tu (vS (bkH (bgF 8) PF k) (rT (pk PF k) 64) r 4) 6) ^^^ (tu (vS (bkH (bgF 8) PF k) (rT (pk PF k) 64) r 4) 11)) ^^^ (tu (vS (bkH (bgF 8) PF k) (rT (pk PF k) 64) r 4) 25))) % B32) + ((((vS (bkH (bgF 8) PF k) (rT (pk PF k) 64) r 4) &&& (vS (bkH (bgF 8) PF k) (rT (pk PF k) 64) r 5)) + ((4294967295 - (vS (bkH (bgF 8) PF k) (rT (pk PF k) 64) r 4)) &&& (vS (bkH (bgF 8) PF k) (rT (pk PF k) 64) r 6))) % B32)) % B32) + ((cu r) / 2 ^ 32)) % B32) + (rT (pk PF k) 64 r)) % B32) + (((((tu (vS (bkH (bgF 8) PF k) (rT (pk PF k) 64) r 0) 2) ^^^ (tu (vS (bkH (bgF 8) PF k) (rT (pk PF k) 64) r 0) 13)) ^^^ (tu (vS (bkH (bgF 8) PF k) (rT (pk PF k) 64) r 0) 22)) + ((((vS (bkH (bgF 8) PF k) (rT (pk PF k) 64) r 0) &&& (vS (bkH (bgF 8) PF k) (rT (pk PF k) 64) r 1)) ||| ((vS (bkH (bgF 8) PF k) (rT (pk PF k) 64) r 0) &&& (vS (bkH (bgF 8) PF k) (rT (pk PF k) 64) r 2))) ||| ((vS (bkH (bgF 8) PF k) (rT (pk PF k) 64) r 1) &&& (vS (bkH (bgF 8) PF k) (rT (pk PF k) 64) r 2)))) % B32)) % B32) (vS (bkH (bgF 8) PF k) (rT (pk PF k) 64) r 0) (vS (bkH (bgF 8) PF k) (rT (pk PF k) 64) r 1) (vS (bkH (bgF 8) PF k) (rT (pk PF k) 64) r 2) (((vS (bkH (bgF 8) PF k) (rT (pk PF k) 64) r 3) + (((((((((vS (bkH (bgF 8) PF k) (rT (pk PF k) 64) r 7) + (((tu (vS (bkH (bgF 8) PF k) (rT (pk PF k) 64) r 4) 6) ^^^ (tu (vS (bkH (bgF 8) PF k) (rT (pk PF k) 64) r 4) 11)) ^^^ (tu (vS (bkH (bgF 8) PF k) (rT (pk PF k) 64) r 4) 25))) % B32) + ((((vS (bkH (bgF 8) PF k) (rT (pk PF k) 64) r 4) &&& (vS (bkH (bgF 8) PF k) (rT (pk PF k) 64) r 5)) + ((4294967295 - (vS (bkH (bgF 8) PF k) (rT (pk PF k) 64) r 4)) &&& (vS (bkH (bgF 8) PF k) (rT (pk PF k) 64) r 6))) % B32)) % B32) + ((cu r) / 2 ^ 32)) % B32) + (rT (pk PF k) 64 r)) % B32)) % B32) (vS (bkH (bgF 8) PF k) (rT (pk PF k) 64) r 4) (vS (bkH (bgF 8) PF k) (rT (pk PF k) 64) r 5) (vS (bkH (bgF 8) PF k) (rT (pk PF k) 64) r 6)))) (c := aw 8 (vS (bkH (bgF 8) PF k) (rT (pk PF k) 64) r)) (n := aw 8 (g8 (((((((((((vS (bkH (bgF 8) PF k) (rT (pk PF k) 64) r 7) + (((tu (vS (bkH (bgF 8) PF k) (rT (pk PF k) 64) r 4) 6) ^^^ (tu (vS (bkH (bgF 8) PF k) (rT (pk PF k) 64) r 4) 11)) ^^^ (tu (vS (bkH (bgF 8) PF k) (rT (pk PF k) 64) r 4) 25))) % B32) + ((((vS (bkH (bgF 8) PF k) (rT (pk PF k) 64) r 4) &&& (vS (bkH (bgF 8) PF k) (rT (pk PF k) 64) r 5)) + ((4294967295 - (vS (bkH (bgF 8) PF k) (rT (pk PF k) 64) r 4)) &&& (vS (bkH (bgF 8) PF k) (rT (pk PF k) 64) r 6))) % B32)) % B32) + ((cu r) / 2 ^ 32)) % B32) + (rT (pk PF k) 64 r)) % B32) + (((((tu (vS (bkH (bgF 8) PF k) (rT (pk PF k) 64) r 0) 2) ^^^ (tu (vS (bkH (bgF 8) PF k) (rT (pk PF k) 64) r 0) 13)) ^^^ (tu (vS (bkH (bgF 8) PF k) (rT (pk PF k) 64) r 0) 22)) + ((((vS (bkH (bgF 8) PF k) (rT (pk PF k) 64) r 0) &&& (vS (bkH (bgF 8) PF k) (rT (pk PF k) 64) r 1)) ||| ((vS (bkH (bgF 8) PF k) (rT (pk PF k) 64) r 0) &&& (vS (bkH (bgF 8) PF k) (rT (pk PF k) 64) r 2))) ||| ((vS (bkH (bgF 8) PF k) (rT (pk PF k) 64) r 1) &&& (vS (bkH (bgF 8) PF k) (rT (pk PF k) 64) r 2)))) % B32)) % B32) (vS (bkH (bgF 8) PF k) (rT (pk PF k) 64) r 0) (vS (bkH (bgF 8) PF k) (rT (pk PF k) 64) r 1) (vS (bkH (bgF 8) PF k) (rT (pk PF k) 64) r 2) (((vS (bkH (bgF 8) PF k) (rT (pk PF k) 64) r 3) + (((((((((vS (bkH (bgF 8) PF k) (rT (pk PF k) 64) r 7) + (((tu (vS (bkH (bgF 8) PF k) (rT (pk PF k) 64) r 4) 6) ^^^ (tu (vS (bkH (bgF 8) PF k) (rT (pk PF k) 64) r 4) 11)) ^^^ (tu (vS (bkH (bgF 8) PF k) (rT (pk PF k) 64) r 4) 25))) % B32) + ((((vS (bkH (bgF 8) PF k) (rT (pk PF k) 64) r 4) &&& (vS (bkH (bgF 8) PF k) (rT (pk PF k) 64) r 5)) + ((4294967295 - (vS (bkH (bgF 8) PF k) (rT (pk PF k) 64) r 4)) &&& (vS (bkH (bgF 8) PF k) (rT (pk PF k) 64) r 6))) % B32)) % B32) + ((cu r) / 2 ^ 32)) % B32) + (rT (pk PF k) 64 r)) % B32)) % B32) (vS (bkH (bgF 8) PF k) (rT (pk PF k) 64) r 4) (vS (bkH (bgF 8) PF k) (rT (pk PF k) 64) r 5) (vS (bkH (bgF 8) PF k) (rT (pk PF k) 64) r 6))) (st8a (F := (g8 (((((((((((vS (bkH (bgF 8) PF k) (rT (pk PF k) 64) r 7) + (((tu (vS (bkH (bgF 8) PF k) (rT (pk PF k) 64) r 4) 6) ^^^ (tu (vS (bkH (bgF 8) PF k) (rT (pk PF k) 64) r 4) 11)) ^^^ (tu (vS (bkH (bgF 8) PF k) (rT (pk PF k) 64) r 4) 25))) % B32) + ((((vS (bkH (bgF 8) PF k) (rT (pk PF k) 64) r 4) &&& (vS (bkH (bgF 8) PF k) (rT (pk PF k) 64) r 5)) + ((4294967295 - (vS (bkH (bgF 8) PF k) (rT (pk PF k) 64) r 4)) &&& (vS (bkH (bgF 8) PF k) (rT (pk PF k) 64) r 6))) % B32)) % B32) + ((cu r) / 2 ^ 32)) % B32) + (rT (pk PF k) 64 r)) % B32) + (((((tu (vS (bkH (bgF 8) PF k) (rT (pk PF k) 64) r 0) 2) ^^^ (tu (vS (bkH (bgF 8) PF k) (rT (pk PF k) 64) r 0) 13)) ^^^ (tu (vS (bkH (bgF 8) PF k) (rT (pk PF k) 64) r 0) 22)) + ((((vS (bkH (bgF 8) PF k) (rT (pk PF k) 64) r 0) &&& (vS (bkH (bgF 8) PF k) (rT (pk PF k) 64) r 1)) ||| ((vS (bkH (bgF 8) PF k) (rT (pk PF k) 64) r 0) &&& (vS (bkH (bgF 8) PF k) (rT (pk PF k) 64) r 2))) ||| ((vS (bkH (bgF 8) PF k) (rT (pk PF k) 64) r 1) &&& (vS (bkH (bgF 8) PF k) (rT (pk PF k) 64) r 2)))) % B32)) % B32) (vS (bkH (bgF 8) PF k) (rT (pk PF k) 64) r 0) (vS (bkH (bgF 8) PF k) (rT (pk PF k) 64) r 1) (vS (bkH (bgF 8) PF k) (rT (pk PF k) 64) r 2) (((vS (bkH (bgF 8) PF k) (rT (pk PF k) 64) r 3) + (((((((((vS (bkH (bgF 8) PF k) (rT (pk PF k) 64) r 7) + (((tu (vS (bkH (bgF 8) PF k) (rT (pk PF k) 64) r 4) 6) ^^^ (tu (vS (bkH (bgF 8) PF k) (rT (pk PF k) 64) r 4) 11)) ^^^ (tu (vS (bkH (bgF 8) PF k) (rT (pk PF k) 64) r 4) 25))) % B32) + ((((vS (bkH (bgF 8) PF k) (rT (pk PF k) 64) r 4) &&& (vS (bkH (bgF 8) PF k) (rT (pk PF k) 64) r 5)) + ((4294967295 - (vS (bkH (bgF 8) PF k) (rT (pk PF k) 64) r 4)) &&& (vS (bkH (bgF 8) PF k) (rT (pk PF k) 64) r 6))) % B32)) % B32) + ((cu r) / 2 ^ 32)) % B32) + (rT (pk PF k) 64 r)) % B32)) % B32) (vS (bkH (bgF 8) PF k) (rT (pk PF k) 64) r 4) (vS (bkH (bgF 8) PF k) (rT (pk PF k) 64) r 5) (vS (bkH (bgF 8) PF k) (rT (pk PF k) 64) r 6))) (c := aw 8 (vS (bkH (bgF 8) PF k) (rT (pk PF k) 64) r)) 99 (aw_size _ _)) rfl rfl) <|
            ok_nil
          clear h; intro β a w h
          refine blk_norm ?_
          refine sym_then ?_
          refine St.r0 h [(112, .inl (.int .i64 ((r : Nat) : Int))), (113, .inl (.int .i64 (((r + 1) : Nat) : Int))), (15, .inl (.int .i64 (((r + 1) : Nat) : Int)))] [eO] ?_ ?_
          · exact oc (k_m0 rfl rfl) <|
            oz (k_bi (.int .i64 ((r : Nat) : Int)) (.int .i64 ((1 : Nat) : Int)) (.int .i64 (((r + 1) : Nat) : Int)) (ad_i (m := r) (n := 1) (by omega)) rfl rfl) <|
            oz (k_mv (.inr rfl) rfl) <|
            ok_nil
          clear h; intro β a w h
          replace h := St.sm h 6 (aw 8 (vS (bkH (bgF 8) PF k) (rT (pk PF k) 64) (r + 1))) (c := aw 8 (g8 (((((((((((vS (bkH (bgF 8) PF k) (rT (pk PF k) 64) r 7) + (((tu (vS (bkH (bgF 8) PF k) (rT (pk PF k) 64) r 4) 6) ^^^ (tu (vS (bkH (bgF 8) PF k) (rT (pk PF k) 64) r 4) 11)) ^^^ (tu (vS (bkH (bgF 8) PF k) (rT (pk PF k) 64) r 4) 25))) % B32) + ((((vS (bkH (bgF 8) PF k) (rT (pk PF k) 64) r 4) &&& (vS (bkH (bgF 8) PF k) (rT (pk PF k) 64) r 5)) + ((4294967295 - (vS (bkH (bgF 8) PF k) (rT (pk PF k) 64) r 4)) &&& (vS (bkH (bgF 8) PF k) (rT (pk PF k) 64) r 6))) % B32)) % B32) + ((cu r) / 2 ^ 32)) % B32) + (rT (pk PF k) 64 r)) % B32) + (((((tu (vS (bkH (bgF 8) PF k) (rT (pk PF k) 64) r 0) 2) ^^^ (tu (vS (bkH (bgF 8) PF k) (rT (pk PF k) 64) r 0) 13)) ^^^ (tu (vS (bkH (bgF 8) PF k) (rT (pk PF k) 64) r 0) 22)) + ((((vS (bkH (bgF 8) PF k) (rT (pk PF k) 64) r 0) &&& (vS (bkH (bgF 8) PF k) (rT (pk PF k) 64) r 1)) ||| ((vS (bkH (bgF 8) PF k) (rT (pk PF k) 64) r 0) &&& (vS (bkH (bgF 8) PF k) (rT (pk PF k) 64) r 2))) ||| ((vS (bkH (bgF 8) PF k) (rT (pk PF k) 64) r 1) &&& (vS (bkH (bgF 8) PF k) (rT (pk PF k) 64) r 2)))) % B32)) % B32) (vS (bkH (bgF 8) PF k) (rT (pk PF k) 64) r 0) (vS (bkH (bgF 8) PF k) (rT (pk PF k) 64) r 1) (vS (bkH (bgF 8) PF k) (rT (pk PF k) 64) r 2) (((vS (bkH (bgF 8) PF k) (rT (pk PF k) 64) r 3) + (((((((((vS (bkH (bgF 8) PF k) (rT (pk PF k) 64) r 7) + (((tu (vS (bkH (bgF 8) PF k) (rT (pk PF k) 64) r 4) 6) ^^^ (tu (vS (bkH (bgF 8) PF k) (rT (pk PF k) 64) r 4) 11)) ^^^ (tu (vS (bkH (bgF 8) PF k) (rT (pk PF k) 64) r 4) 25))) % B32) + ((((vS (bkH (bgF 8) PF k) (rT (pk PF k) 64) r 4) &&& (vS (bkH (bgF 8) PF k) (rT (pk PF k) 64) r 5)) + ((4294967295 - (vS (bkH (bgF 8) PF k) (rT (pk PF k) 64) r 4)) &&& (vS (bkH (bgF 8) PF k) (rT (pk PF k) 64) r 6))) % B32)) % B32) + ((cu r) / 2 ^ 32)) % B32) + (rT (pk PF k) 64 r)) % B32)) % B32) (vS (bkH (bgF 8) PF k) (rT (pk PF k) 64) r 4) (vS (bkH (bgF 8) PF k) (rT (pk PF k) 64) r 5) (vS (bkH (bgF 8) PF k) (rT (pk PF k) 64) r 6))) (t := 99) (vS_n hH r _ _ rfl rfl)
          obtain ⟨x, h⟩ := St.jn (n := 226) h [0, 2, 3, 4, 5, 6, 7, 8, 9, 10, 14, 15] [.inl (.slice aa len cap), .inr (0, pt 0), .inr (1, pt 0), .inr (2, sl 0 8 8), .inr (3, sl 0 80 80), .inl (.int .i64 ((8 : Nat) : Int)), .inr (4, sl 0 M pc), .inl (.int .i64 (((64 * k) : Nat) : Int)), .inr (5, pt 0), .inl (.int .i64 ((64 : Nat) : Int)), .inr (6, pt 0), .inl (.int .i64 (((r + 1) : Nat) : Int))] [(ab 32 (fun _ => 0), 34), (aw 8 (bkH (bgF 8) PF k), 99), (au 8 sq, 102), (au 80 cu, 102), (c, 5), (aw 64 (rT (pk PF k) 64), 104), (aw 8 (vS (bkH (bgF 8) PF k) (rT (pk PF k) 64) (r + 1)), 99)] (by kernel_rfl) (by kernel_rfl) (by kernel_rfl)
          exact ⟨hltr, x, _, h⟩
        · obtain rfl : 64 = r := by omega
          refine sym_seq ?_
          refine sym_seq ?_
          refine St.r0 h [(110, .inl (.int .i64 ((64 : Nat) : Int))), (111, .inl (.bool false))] [] ?_ ?_
          · exact oz (k_mv (.inl rfl) rfl) <|
            oz (k_bi (.int .i64 ((64 : Nat) : Int)) (.int .i64 ((64 : Nat) : Int)) (.bool false) (lt_i (m := ((64 : Nat) : Int)) (n := ((64 : Nat) : Int)) (decide_eq_false (by omega))) rfl rfl) <|
            ok_nil
          clear h; intro β a w h
          refine sym_then ?_
          refine s_cf h ?_
          refine wp_exit ?_
          refine then_exit ?_
          refine then_exit ?_
          refine blk_exit ?_
          refine sym_then ?_
          refine sym_seq ?_
          refine St.r0 h [(20, .inl (.int .i64 ((0 : Nat) : Int)))] [] ?_ ?_
          · exact oz (k_mv (.inr rfl) rfl) <|
            ok_nil
          clear h; intro β a w h
          refine sym_then ?_
          refine blk_in ?_
          replace h := St.sm h 1 (aw 8 (hF (bkH (bgF 8) PF k) (vS (bkH (bgF 8) PF k) (rT (pk PF k) 64) 64) 0)) (c := aw 8 (bkH (bgF 8) PF k)) (t := 99) rfl
          obtain ⟨x, h⟩ := St.jn (n := 226) h [0, 2, 3, 4, 5, 6, 7, 8, 9, 10, 14, 15, 20] [.inl (.slice aa len cap), .inr (0, pt 0), .inr (1, pt 0), .inr (2, sl 0 8 8), .inr (3, sl 0 80 80), .inl (.int .i64 ((8 : Nat) : Int)), .inr (4, sl 0 M pc), .inl (.int .i64 (((64 * k) : Nat) : Int)), .inr (5, pt 0), .inl (.int .i64 ((64 : Nat) : Int)), .inr (6, pt 0), .inl (.int .i64 ((64 : Nat) : Int)), .inl (.int .i64 ((0 : Nat) : Int))] [(ab 32 (fun _ => 0), 34), (aw 8 (hF (bkH (bgF 8) PF k) (vS (bkH (bgF 8) PF k) (rT (pk PF k) 64) 64) 0), 99), (au 8 sq, 102), (au 80 cu, 102), (c, 5), (aw 64 (rT (pk PF k) 64), 104), (aw 8 (vS (bkH (bgF 8) PF k) (rT (pk PF k) 64) 64), 99)] (by kernel_rfl) (by kernel_rfl) (by kernel_rfl)
          refine loop_up 8 (fun i a w => ∃ (x : Nat → SV) (β : Nat → Nat), St (wd W0) (ov (jk 226 x) ([0, 2, 3, 4, 5, 6, 7, 8, 9, 10, 14, 15, 20].zip [.inl (.slice aa len cap), .inr (0, pt 0), .inr (1, pt 0), .inr (2, sl 0 8 8), .inr (3, sl 0 80 80), .inl (.int .i64 ((8 : Nat) : Int)), .inr (4, sl 0 M pc), .inl (.int .i64 (((64 * k) : Nat) : Int)), .inr (5, pt 0), .inl (.int .i64 ((64 : Nat) : Int)), .inr (6, pt 0), .inl (.int .i64 ((64 : Nat) : Int)), .inl (.int .i64 ((i : Nat) : Int))])) [(ab 32 (fun _ => 0), 34), (aw 8 (hF (bkH (bgF 8) PF k) (vS (bkH (bgF 8) PF k) (rT (pk PF k) 64) 64) i), 99), (au 8 sq, 102), (au 80 cu, 102), (c, 5), (aw 64 (rT (pk PF k) 64), 104), (aw 8 (vS (bkH (bgF 8) PF k) (rT (pk PF k) 64) 64), 99)] β a w) ⟨x, _, h⟩ ?_
          clear h; rintro i a w hki ⟨x, β, h⟩
          rcases Nat.lt_or_ge i 8 with hlti | hgei
          · refine sym_seq ?_
            refine sym_seq ?_
            refine St.r0 h [(195, .inl (.int .i64 ((i : Nat) : Int))), (196, .inl (.bool true))] [] ?_ ?_
            · exact oz (k_mv (.inl rfl) rfl) <|
              oz (k_bi (.int .i64 ((i : Nat) : Int)) (.int .i64 ((8 : Nat) : Int)) (.bool true) (lt_i (m := ((i : Nat) : Int)) (n := ((8 : Nat) : Int)) (decide_eq_true (by omega))) rfl rfl) <|
              ok_nil
            clear h; intro β a w h
            refine sym_then ?_
            refine s_ct h ?_
            refine wp_skip ?_
            refine sym_then ?_
            refine sym_seq ?_
            refine blk_in ?_
            refine St.rg h [(199, .inl (.int .i64 ((i : Nat) : Int))), (200, .inl (.int .i64 ((i : Nat) : Int))), (201, .inr (1, pt i)), (202, .inl (.int .u32 (((hF (bkH (bgF 8) PF k) (vS (bkH (bgF 8) PF k) (rT (pk PF k) 64) 64) i i) : Nat) : Int))), (203, .inl (.int .i64 ((i : Nat) : Int))), (204, .inr (6, pt i)), (205, .inl (.int .u32 (((vS (bkH (bgF 8) PF k) (rT (pk PF k) 64) 64 i) : Nat) : Int))), (206, .inl (.int .u32 (((((hF (bkH (bgF 8) PF k) (vS (bkH (bgF 8) PF k) (rT (pk PF k) 64) 64) i i) + (vS (bkH (bgF 8) PF k) (rT (pk PF k) 64) 64 i)) % B32) : Nat) : Int))), (207, .inr (1, pt i))] [] [(1, aw 8 (updN (hF (bkH (bgF 8) PF k) (vS (bkH (bgF 8) PF k) (rT (pk PF k) 64) 64) i) i (((hF (bkH (bgF 8) PF k) (vS (bkH (bgF 8) PF k) (rT (pk PF k) 64) 64) i i) + (vS (bkH (bgF 8) PF k) (rT (pk PF k) 64) 64 i)) % B32)))] [nn, nn, nn, eR 1, nn, nn, eR 6, nn, nn, eS 1] ?_ ?_
            · exact oc (k_mv (.inl rfl) rfl) <|
              oc (k_mv (.inl rfl) rfl) <|
              oc (k_ia 1 0 i (.int .i64 ((i : Nat) : Int)) (ix8h (i := i) (by omega)) rfl rfl) <|
              oc (k_ld 1 i (.int .u32 (((hF (bkH (bgF 8) PF k) (vS (bkH (bgF 8) PF k) (rT (pk PF k) 64) 64) i i) : Nat) : Int)) (c := aw 8 (hF (bkH (bgF 8) PF k) (vS (bkH (bgF 8) PF k) (rT (pk PF k) 64) 64) i)) (ld_aw (n := 8) (F := (hF (bkH (bgF 8) PF k) (vS (bkH (bgF 8) PF k) (rT (pk PF k) 64) 64) i)) (i := i) (t0 := 99) (by omega)) rfl rfl) <|
              oc (k_mv (.inl rfl) rfl) <|
              oc (k_ia 6 0 i (.int .i64 ((i : Nat) : Int)) (ix8h (i := i) (by omega)) rfl rfl) <|
              oc (k_ld 6 i (.int .u32 (((vS (bkH (bgF 8) PF k) (rT (pk PF k) 64) 64 i) : Nat) : Int)) (c := aw 8 (vS (bkH (bgF 8) PF k) (rT (pk PF k) 64) 64)) (ld_aw (n := 8) (F := (vS (bkH (bgF 8) PF k) (rT (pk PF k) 64) 64)) (i := i) (t0 := 99) (by omega)) rfl rfl) <|
              oc (k_bi (.int .u32 (((hF (bkH (bgF 8) PF k) (vS (bkH (bgF 8) PF k) (rT (pk PF k) 64) 64) i i) : Nat) : Int)) (.int .u32 (((vS (bkH (bgF 8) PF k) (rT (pk PF k) 64) 64 i) : Nat) : Int)) (.int .u32 (((((hF (bkH (bgF 8) PF k) (vS (bkH (bgF 8) PF k) (rT (pk PF k) 64) 64) i i) + (vS (bkH (bgF 8) PF k) (rT (pk PF k) 64) 64 i)) % B32) : Nat) : Int)) (ad_w (m := (hF (bkH (bgF 8) PF k) (vS (bkH (bgF 8) PF k) (rT (pk PF k) 64) 64) i i)) (n := (vS (bkH (bgF 8) PF k) (rT (pk PF k) 64) 64 i))) rfl rfl) <|
              oc (k_ia 1 0 i (.int .i64 ((i : Nat) : Int)) (ix8h (i := i) (by omega)) rfl rfl) <|
              oc (k_st 1 i (.int .u32 (((((hF (bkH (bgF 8) PF k) (vS (bkH (bgF 8) PF k) (rT (pk PF k) 64) 64) i i) + (vS (bkH (bgF 8) PF k) (rT (pk PF k) 64) 64 i)) % B32) : Nat) : Int)) (c := aw 8 (hF (bkH (bgF 8) PF k) (vS (bkH (bgF 8) PF k) (rT (pk PF k) 64) 64) i)) (n := aw 8 (updN (hF (bkH (bgF 8) PF k) (vS (bkH (bgF 8) PF k) (rT (pk PF k) 64) 64) i) i (((hF (bkH (bgF 8) PF k) (vS (bkH (bgF 8) PF k) (rT (pk PF k) 64) 64) i i) + (vS (bkH (bgF 8) PF k) (rT (pk PF k) 64) 64 i)) % B32))) (st_aw (n := 8) (F := (hF (bkH (bgF 8) PF k) (vS (bkH (bgF 8) PF k) (rT (pk PF k) 64) 64) i)) (i := i) (v := (((hF (bkH (bgF 8) PF k) (vS (bkH (bgF 8) PF k) (rT (pk PF k) 64) 64) i i) + (vS (bkH (bgF 8) PF k) (rT (pk PF k) 64) 64 i)) % B32)) (t0 := 99) (by omega)) rfl rfl) <|
              ok_nil
            clear h; intro β a w h
            refine blk_norm ?_
            refine sym_then ?_
            refine St.r0 h [(197, .inl (.int .i64 ((i : Nat) : Int))), (198, .inl (.int .i64 (((i + 1) : Nat) : Int))), (20, .inl (.int .i64 (((i + 1) : Nat) : Int)))] [eO] ?_ ?_
            · exact oc (k_m0 rfl rfl) <|
              oz (k_bi (.int .i64 ((i : Nat) : Int)) (.int .i64 ((1 : Nat) : Int)) (.int .i64 (((i + 1) : Nat) : Int)) (ad_i (m := i) (n := 1) (by omega)) rfl rfl) <|
              oz (k_mv (.inr rfl) rfl) <|
              ok_nil
            clear h; intro β a w h
            replace h := St.sm h 1 (aw 8 (hF (bkH (bgF 8) PF k) (vS (bkH (bgF 8) PF k) (rT (pk PF k) 64) 64) (i + 1))) (c := aw 8 (updN (hF (bkH (bgF 8) PF k) (vS (bkH (bgF 8) PF k) (rT (pk PF k) 64) 64) i) i (((hF (bkH (bgF 8) PF k) (vS (bkH (bgF 8) PF k) (rT (pk PF k) 64) 64) i i) + (vS (bkH (bgF 8) PF k) (rT (pk PF k) 64) 64 i)) % B32))) (t := 99) rfl
            obtain ⟨x, h⟩ := St.jn (n := 226) h [0, 2, 3, 4, 5, 6, 7, 8, 9, 10, 14, 15, 20] [.inl (.slice aa len cap), .inr (0, pt 0), .inr (1, pt 0), .inr (2, sl 0 8 8), .inr (3, sl 0 80 80), .inl (.int .i64 ((8 : Nat) : Int)), .inr (4, sl 0 M pc), .inl (.int .i64 (((64 * k) : Nat) : Int)), .inr (5, pt 0), .inl (.int .i64 ((64 : Nat) : Int)), .inr (6, pt 0), .inl (.int .i64 ((64 : Nat) : Int)), .inl (.int .i64 (((i + 1) : Nat) : Int))] [(ab 32 (fun _ => 0), 34), (aw 8 (hF (bkH (bgF 8) PF k) (vS (bkH (bgF 8) PF k) (rT (pk PF k) 64) 64) (i + 1)), 99), (au 8 sq, 102), (au 80 cu, 102), (c, 5), (aw 64 (rT (pk PF k) 64), 104), (aw 8 (vS (bkH (bgF 8) PF k) (rT (pk PF k) 64) 64), 99)] (by kernel_rfl) (by kernel_rfl) (by kernel_rfl)
            exact ⟨hlti, x, _, h⟩
          · obtain rfl : 8 = i := by omega
            refine sym_seq ?_
            refine sym_seq ?_
            refine St.r0 h [(195, .inl (.int .i64 ((8 : Nat) : Int))), (196, .inl (.bool false))] [] ?_ ?_
            · exact oz (k_mv (.inl rfl) rfl) <|
              oz (k_bi (.int .i64 ((8 : Nat) : Int)) (.int .i64 ((8 : Nat) : Int)) (.bool false) (lt_i (m := ((8 : Nat) : Int)) (n := ((8 : Nat) : Int)) (decide_eq_false (by omega))) rfl rfl) <|
              ok_nil
            clear h; intro β a w h
            refine sym_then ?_
            refine s_cf h ?_
            refine wp_exit ?_
            refine then_exit ?_
            refine then_exit ?_
            refine blk_exit ?_
            refine blk_norm ?_
            refine sym_then ?_
            refine St.r0 h [(43, .inl (.int .i64 (((64 * k) : Nat) : Int))), (44, .inl (.int .i64 ((((64 * k) + 64) : Nat) : Int))), (8, .inl (.int .i64 ((((64 * k) + 64) : Nat) : Int)))] [eO] ?_ ?_
            · exact oc (k_m0 rfl rfl) <|
              oz (k_bi (.int .i64 (((64 * k) : Nat) : Int)) (.int .i64 ((64 : Nat) : Int)) (.int .i64 ((((64 * k) + 64) : Nat) : Int)) (ad_i (m := (64 * k)) (n := 64) (by omega)) rfl rfl) <|
              oz (k_mv (.inr rfl) rfl) <|
              ok_nil
            clear h; intro β a w h
            replace h := St.sm h 1 (aw 8 (bkH (bgF 8) PF (k + 1))) (c := aw 8 (hF (bkH (bgF 8) PF k) (vS (bkH (bgF 8) PF k) (rT (pk PF k) 64) 64) 8)) (t := 99) (bk_n PF k)
            replace h := St.ss h 8 (.int .i64 (((64 * (k + 1)) : Nat) : Int)) (v := .int .i64 ((((64 * k) + 64) : Nat) : Int)) rfl
            obtain ⟨x, h⟩ := St.jd (n := 226) h [0, 2, 3, 4, 5, 6, 7, 8] [.inl (.slice aa len cap), .inr (0, pt 0), .inr (1, pt 0), .inr (2, sl 0 8 8), .inr (3, sl 0 80 80), .inl (.int .i64 ((8 : Nat) : Int)), .inr (4, sl 0 M pc), .inl (.int .i64 (((64 * (k + 1)) : Nat) : Int))] [(ab 32 (fun _ => 0), 34), (aw 8 (bkH (bgF 8) PF (k + 1)), 99), (au 8 sq, 102), (au 80 cu, 102), (c, 5)] (by kernel_rfl) (by kernel_rfl) (by kernel_rfl) (by kernel_rfl) (fun _ _ h => by cases h)
            exact ⟨hltk, x, _, h⟩
    · obtain rfl : NP = k := by omega
      refine sym_seq ?_
      refine sym_seq ?_
      refine St.r0 h [(39, .inl (.int .i64 (((64 * NP) : Nat) : Int))), (40, .inr (4, sl 0 M pc)), (41, .inl (.int .i64 ((M : Nat) : Int))), (42, .inl (.bool false))] [] ?_ ?_
      · exact oz (k_mv (.inl rfl) rfl) <|
        oz (k_mp 4 (sl 0 M pc) (.inl rfl) rfl) <|
        oz (k_lb 4 0 M pc rfl rfl (fun w ad => len_b _ w)) <|
        oz (k_bi (.int .i64 (((64 * NP) : Nat) : Int)) (.int .i64 ((M : Nat) : Int)) (.bool false) (lt_i (m := (((64 * NP) : Nat) : Int)) (n := ((M : Nat) : Int)) (decide_eq_false (by omega))) rfl rfl) <|
        ok_nil
      clear h; intro β a w h
      refine sym_then ?_
      refine s_cf h ?_
      refine wp_exit ?_
      refine then_exit ?_
      refine then_exit ?_
      refine blk_exit ?_
      refine sym_then ?_
      refine sym_seq ?_
      refine St.rg h [(21, .inr (5, pt 0))] [(ab 32 (fun _ => 0), 34)] [] [eN 5] ?_ ?_
      · exact oc (k_al 5 alS rfl rfl) <|
        ok_nil
      clear h; intro β a w h
      refine sym_then ?_
      refine sym_seq ?_
      refine sym_seq ?_
      refine St.r0 h [(22, .inl (.int .i64 ((0 : Nat) : Int)))] [] ?_ ?_
      · exact oz (k_mv (.inr rfl) rfl) <|
        ok_nil
      clear h; intro β a w h
      refine sym_then ?_
      refine blk_in ?_
      replace h := St.sm h 5 (ab 32 (oF (bkH (bgF 8) PF NP) 0)) (c := ab 32 (fun _ => 0)) (t := 34) (oF_0 _)
      obtain ⟨x, h⟩ := St.jn (n := 226) h [0, 2, 3, 4, 5, 6, 7, 8, 21, 22] [.inl (.slice aa len cap), .inr (0, pt 0), .inr (1, pt 0), .inr (2, sl 0 8 8), .inr (3, sl 0 80 80), .inl (.int .i64 ((8 : Nat) : Int)), .inr (4, sl 0 M pc), .inl (.int .i64 (((64 * NP) : Nat) : Int)), .inr (5, pt 0), .inl (.int .i64 ((0 : Nat) : Int))] [(ab 32 (fun _ => 0), 34), (aw 8 (bkH (bgF 8) PF NP), 99), (au 8 sq, 102), (au 80 cu, 102), (c, 5), (ab 32 (oF (bkH (bgF 8) PF NP) 0), 34)] (by kernel_rfl) (by kernel_rfl) (by kernel_rfl)
      refine loop_up 32 (fun i2 a w => ∃ (x : Nat → SV) (β : Nat → Nat), St (wd W0) (ov (jk 226 x) ([0, 2, 3, 4, 5, 6, 7, 8, 21, 22].zip [.inl (.slice aa len cap), .inr (0, pt 0), .inr (1, pt 0), .inr (2, sl 0 8 8), .inr (3, sl 0 80 80), .inl (.int .i64 ((8 : Nat) : Int)), .inr (4, sl 0 M pc), .inl (.int .i64 (((64 * NP) : Nat) : Int)), .inr (5, pt 0), .inl (.int .i64 ((i2 : Nat) : Int))])) [(ab 32 (fun _ => 0), 34), (aw 8 (bkH (bgF 8) PF NP), 99), (au 8 sq, 102), (au 80 cu, 102), (c, 5), (ab 32 (oF (bkH (bgF 8) PF NP) i2), 34)] β a w) ⟨x, _, h⟩ ?_
      clear h; rintro i2 a w hki2 ⟨x, β, h⟩
      rcases Nat.lt_or_ge i2 32 with hlti2 | hgei2
      · refine sym_seq ?_
        refine sym_seq ?_
        refine St.r0 h [(208, .inl (.int .i64 ((i2 : Nat) : Int))), (209, .inl (.bool true))] [] ?_ ?_
        · exact oz (k_mv (.inl rfl) rfl) <|
          oz (k_bi (.int .i64 ((i2 : Nat) : Int)) (.int .i64 ((32 : Nat) : Int)) (.bool true) (lt_i (m := ((i2 : Nat) : Int)) (n := ((32 : Nat) : Int)) (decide_eq_true (by omega))) rfl rfl) <|
          ok_nil
        clear h; intro β a w h
        refine sym_then ?_
        refine s_ct h ?_
        refine wp_skip ?_
        refine sym_then ?_
        refine sym_seq ?_
        refine blk_in ?_
        refine St.rg h [(212, .inl (.int .i64 ((i2 : Nat) : Int))), (213, .inl (.int .i64 ((i2 : Nat) : Int))), (214, .inl (.int .i64 (((i2 / 4) : Nat) : Int))), (215, .inr (1, pt (i2 / 4))), (216, .inl (.int .u32 (((bkH (bgF 8) PF NP (i2 / 4)) : Nat) : Int))), (217, .inl (.int .i64 ((i2 : Nat) : Int))), (218, .inl (.int .i64 (((i2 % 4) : Nat) : Int))), (219, .inl (.int .i64 (((3 - (i2 % 4)) : Nat) : Int))), (220, .inl (.int .i64 (((8 * (3 - (i2 % 4))) : Nat) : Int))), (221, .inl (.int .u64 (((8 * (3 - (i2 % 4))) : Nat) : Int))), (222, .inl (.int .u32 ((((bkH (bgF 8) PF NP (i2 / 4)) / 2 ^ (8 * (3 - (i2 % 4)))) : Nat) : Int))), (223, .inl (.int .u8 (((((bkH (bgF 8) PF NP (i2 / 4)) / 2 ^ (8 * (3 - (i2 % 4)))) % 256) : Nat) : Int))), (224, .inr (5, pt i2))] [] [(5, ab 32 (updN (oF (bkH (bgF 8) PF NP) i2) i2 (((bkH (bgF 8) PF NP (i2 / 4)) / 2 ^ (8 * (3 - (i2 % 4)))) % 256)))] [nn, nn, nn, nn, eR 1, nn, nn, nn, nn, nn, nn, nn, nn, eS 5] ?_ ?_
        · exact oc (k_mv (.inl rfl) rfl) <|
          oc (k_mv (.inl rfl) rfl) <|
          oc (k_bi (.int .i64 ((i2 : Nat) : Int)) (.int .i64 ((4 : Nat) : Int)) (.int .i64 (((i2 / 4) : Nat) : Int)) (qu_i (m := i2) (n := 4) (by decide) (by omega)) rfl rfl) <|
          oc (k_ia 1 0 ((i2 / 4)) (.int .i64 (((i2 / 4) : Nat) : Int)) (ix8h (i := (i2 / 4)) (by omega)) rfl rfl) <|
          oc (k_ld 1 ((i2 / 4)) (.int .u32 (((bkH (bgF 8) PF NP (i2 / 4)) : Nat) : Int)) (c := aw 8 (bkH (bgF 8) PF NP)) (ld_aw (n := 8) (F := (bkH (bgF 8) PF NP)) (i := (i2 / 4)) (t0 := 99) (by omega)) rfl rfl) <|
          oc (k_mv (.inl rfl) rfl) <|
          oc (k_bi (.int .i64 ((i2 : Nat) : Int)) (.int .i64 ((4 : Nat) : Int)) (.int .i64 (((i2 % 4) : Nat) : Int)) (re_i (m := i2) (n := 4) (by decide)) rfl rfl) <|
          oc (k_bi (.int .i64 ((3 : Nat) : Int)) (.int .i64 (((i2 % 4) : Nat) : Int)) (.int .i64 (((3 - (i2 % 4)) : Nat) : Int)) (sb_zn (m := ((3 : Nat) : Int)) (n := (((i2 % 4) : Nat) : Int)) (k := (3 - (i2 % 4))) (by omega) (by omega)) rfl rfl) <|
          oc (k_bi (.int .i64 ((8 : Nat) : Int)) (.int .i64 (((3 - (i2 % 4)) : Nat) : Int)) (.int .i64 (((8 * (3 - (i2 % 4))) : Nat) : Int)) (mu_i (m := 8) (n := (3 - (i2 % 4))) (by omega)) rfl rfl) <|
          oc (k_co (.int .i64 (((8 * (3 - (i2 % 4))) : Nat) : Int)) (.int .u64 (((8 * (3 - (i2 % 4))) : Nat) : Int)) (cv_iu (n := (8 * (3 - (i2 % 4)))) (by omega)) rfl rfl) <|
          oc (k_bi (.int .u32 (((bkH (bgF 8) PF NP (i2 / 4)) : Nat) : Int)) (.int .u64 (((8 * (3 - (i2 % 4))) : Nat) : Int)) (.int .u32 ((((bkH (bgF 8) PF NP (i2 / 4)) / 2 ^ (8 * (3 - (i2 % 4)))) : Nat) : Int)) (sr_wu (m := (bkH (bgF 8) PF NP (i2 / 4))) (r := (8 * (3 - (i2 % 4)))) (by omega)) rfl rfl) <|
          oc (k_co (.int .u32 ((((bkH (bgF 8) PF NP (i2 / 4)) / 2 ^ (8 * (3 - (i2 % 4)))) : Nat) : Int)) (.int .u8 (((((bkH (bgF 8) PF NP (i2 / 4)) / 2 ^ (8 * (3 - (i2 % 4)))) % 256) : Nat) : Int)) (cv_w8 (n := ((bkH (bgF 8) PF NP (i2 / 4)) / 2 ^ (8 * (3 - (i2 % 4)))))) rfl rfl) <|
          oc (k_ia 5 0 i2 (.int .i64 ((i2 : Nat) : Int)) (ixS (i := i2) (by omega)) rfl rfl) <|
          oc (k_st 5 i2 (.int .u8 (((((bkH (bgF 8) PF NP (i2 / 4)) / 2 ^ (8 * (3 - (i2 % 4)))) % 256) : Nat) : Int)) (c := ab 32 (oF (bkH (bgF 8) PF NP) i2)) (n := ab 32 (updN (oF (bkH (bgF 8) PF NP) i2) i2 (((bkH (bgF 8) PF NP (i2 / 4)) / 2 ^ (8 * (3 - (i2 % 4)))) % 256))) (st_abS (N := 32) (F := (oF (bkH (bgF 8) PF NP) i2)) (i := i2) (v := (((bkH (bgF 8) PF NP (i2 / 4)) / 2 ^ (8 * (3 - (i2 % 4)))) % 256)) (t0 := 34) (by omega)) rfl rfl) <|
          ok_nil
        clear h; intro β a w h
        refine blk_norm ?_
        refine sym_then ?_
        refine St.r0 h [(210, .inl (.int .i64 ((i2 : Nat) : Int))), (211, .inl (.int .i64 (((i2 + 1) : Nat) : Int))), (22, .inl (.int .i64 (((i2 + 1) : Nat) : Int)))] [eO] ?_ ?_
        · exact oc (k_m0 rfl rfl) <|
          oz (k_bi (.int .i64 ((i2 : Nat) : Int)) (.int .i64 ((1 : Nat) : Int)) (.int .i64 (((i2 + 1) : Nat) : Int)) (ad_i (m := i2) (n := 1) (by omega)) rfl rfl) <|
          oz (k_mv (.inr rfl) rfl) <|
          ok_nil
        clear h; intro β a w h
        replace h := St.sm h 5 (ab 32 (oF (bkH (bgF 8) PF NP) (i2 + 1))) (c := ab 32 (updN (oF (bkH (bgF 8) PF NP) i2) i2 (((bkH (bgF 8) PF NP (i2 / 4)) / 2 ^ (8 * (3 - (i2 % 4)))) % 256))) (t := 34) (oF_n _ _)
        obtain ⟨x, h⟩ := St.jn (n := 226) h [0, 2, 3, 4, 5, 6, 7, 8, 21, 22] [.inl (.slice aa len cap), .inr (0, pt 0), .inr (1, pt 0), .inr (2, sl 0 8 8), .inr (3, sl 0 80 80), .inl (.int .i64 ((8 : Nat) : Int)), .inr (4, sl 0 M pc), .inl (.int .i64 (((64 * NP) : Nat) : Int)), .inr (5, pt 0), .inl (.int .i64 (((i2 + 1) : Nat) : Int))] [(ab 32 (fun _ => 0), 34), (aw 8 (bkH (bgF 8) PF NP), 99), (au 8 sq, 102), (au 80 cu, 102), (c, 5), (ab 32 (oF (bkH (bgF 8) PF NP) (i2 + 1)), 34)] (by kernel_rfl) (by kernel_rfl) (by kernel_rfl)
        exact ⟨hlti2, x, _, h⟩
      · obtain rfl : 32 = i2 := by omega
        refine sym_seq ?_
        refine sym_seq ?_
        refine St.r0 h [(208, .inl (.int .i64 ((32 : Nat) : Int))), (209, .inl (.bool false))] [] ?_ ?_
        · exact oz (k_mv (.inl rfl) rfl) <|
          oz (k_bi (.int .i64 ((32 : Nat) : Int)) (.int .i64 ((32 : Nat) : Int)) (.bool false) (lt_i (m := ((32 : Nat) : Int)) (n := ((32 : Nat) : Int)) (decide_eq_false (by omega))) rfl rfl) <|
          ok_nil
        clear h; intro β a w h
        refine sym_then ?_
        refine s_cf h ?_
        refine wp_exit ?_
        refine then_exit ?_
        refine then_exit ?_
        refine blk_exit ?_
        refine sym_then ?_
        refine sym_seq ?_
        refine St.rg h [(225, .inl (.agg (ab 32 (oF (bkH (bgF 8) PF NP) 32))))] [] [(0, ab 32 (oF (bkH (bgF 8) PF NP) 32))] [eR 5, eS 0] ?_ ?_
        · exact oc (k_ld 5 0 (.agg (ab 32 (oF (bkH (bgF 8) PF NP) 32))) (c := ab 32 (oF (bkH (bgF 8) PF NP) 32)) (ldS (F := (oF (bkH (bgF 8) PF NP) 32)) 34) rfl rfl) <|
          oc (k_st 0 0 (.agg (ab 32 (oF (bkH (bgF 8) PF NP) 32))) (c := ab 32 (fun _ => 0)) (n := ab 32 (oF (bkH (bgF 8) PF NP) 32)) (stS (F := (oF (bkH (bgF 8) PF NP) 32)) (c := ab 32 (fun _ => 0)) 34 (ab_size _ _)) rfl rfl) <|
          ok_nil
        clear h; intro β a w h
        refine sym_then ?_
        refine wp_ret ?_
        exact s_rc (b := 0) (t0 := 34) (c := ab 32 (oF (bkH (bgF 8) PF NP) 32)) h Tryd.results42 Tryd.underlying34 (fun hb => ⟨rfl, hb⟩) (by rw [ab_size]; kernel_rfl)
end Go.Proofs.YtgnmnoadfjdjdaaDoor.Sh

namespace Go.Proofs.YtgnmnoadfjdjdaaDoor.Sh
open Go.RowKit

/-- The digest of n bytes. -/
def dg (n : Nat) (f : Nat → Nat) : Nat → Nat := outF (fun _ => 0) (bkH (bgF 8) (padF f n) (nP n)) 8
theorem padF_cong {f g : Nat → Nat} {n : Nat} (h : ∀ i, i < n → f i = g i) : padF f n = padF g n := by
  funext i
  unfold padF
  by_cases hi : i < n
  · rw [if_pos hi, if_pos hi, h i hi]
  · rw [if_neg hi, if_neg hi]
theorem dg_cong {f g : Nat → Nat} {n : Nat} (h : ∀ i, i < n → f i = g i) : dg n f = dg n g := by unfold dg; rw [padF_cong h]
theorem shortP_dg (L : List Pt) : shortP L = dg (lenS L) (joinF L) := shortP_bk L
theorem dg_lt (n : Nat) (f : Nat → Nat) (i : Nat) : dg n f i < 256 := by
  unfold dg
  rcases Nat.lt_or_ge i 32 with h | h
  · rw [outF_e 8 i (by omega)]; exact Nat.mod_lt _ (by decide)
  · have h1 : ∀ k, k ≤ 8 → ∀ H : Nat → Nat, outF (fun _ => 0) H k i = 0 := by
      intro k
      induction k with
      | zero => intro _ _; rfl
      | succ k ih =>
        intro hk H
        show ptF (outF (fun _ => 0) H k) (4 * k) (H k) 4 i = 0
        rw [ptF_out (Or.inr (by omega)) 4]
        exact ih (by omega) H
    rw [h1 8 (by omega)]; decide
theorem refShort_d {aa : Option Addr} {len cap : Nat} {f : Nat → Nat} {W0 : World} (hb : Bs W0 aa len f) (hlen : len ≤ 1099511627776) : Calls Tryd.prog 42 #[.slice aa len cap] W0 fun e w' => e = .returned (.agg (ab 32 (dg len f))) ∧ Below W0.heap.size W0 w' :=
  (refShort_r (cap := cap) hb hlen).mono fun e w' h => ⟨by rw [h.1, oF_e]; rfl, h.2⟩
theorem short_dg {L : List Pt} {pa : Option Addr} {pc : Nat} {W0 : World} (hg : Gl W0) (hP : PsAt W0 pa L) (hL : ∀ x ∈ L, ∀ i, x.2 i < 256) (hlen : lenS L ≤ 1099511627776) (hn : L.length ≤ 1000000) :
    Calls Tryd.prog 74 #[.slice pa L.length pc] W0 fun e w' => e = .returned (.agg (ab 32 (dg (lenS L) (joinF L)))) ∧ Below W0.heap.size W0 w' := by
  rw [← shortP_dg]; exact short_d hg hP hL hlen hn
/-! Reckoned: one piece. -/
/-- A number is reckoned ahead of what is done with it. -/
def frc {α : Type} (x : Nat) (k : Nat → α) : α := Nat.rec (motive := fun _ => α) (k 0) (fun n _ => k (n + 1)) x
theorem frc_e {α : Type} (x : Nat) (k : Nat → α) : frc x k = k x := by cases x <;> rfl
/-- The next word, out of those ahead of it, the last one first. -/
def wN (l : List Nat) : Nat := (((loW (l.getD 1 0) 17 19 10 + l.getD 6 0) % B32 + loW (l.getD 14 0) 7 18 3) % B32 + l.getD 15 0) % B32
def wl : Nat → List Nat → List Nat
  | 0, l => l
  | k + 1, l => frc (wN l) fun v => wl k (v :: l)
/-- A list holds a row's first ones, the last one first. -/
def Rv (F : Nat → Nat) (n : Nat) (l : List Nat) : Prop := l.length = n ∧ ∀ i, i < n → l.getD (n - 1 - i) 0 = F i
theorem r80_old (p : Nat → Nat) (k : Nat) {i : Nat} (h : i ≠ 16 + k) : r80 p (k + 1) i = r80 p k i := by
  show updN (r80 p k) (16 + k) _ i = _
  unfold updN; rw [if_neg h]
theorem wl_rv (p : Nat → Nat) : ∀ k j l, Rv (r80 p j) (16 + j) l → Rv (r80 p (j + k)) (16 + (j + k)) (wl k l)
  | 0, _, _, h => h
  | k + 1, j, l, h => by
    show Rv _ _ (frc (wN l) fun v => wl k (v :: l))
    rw [frc_e]
    have h2 : Rv (r80 p (j + 1)) (16 + (j + 1)) (wN l :: l) := by
      refine ⟨by simp [h.1]; omega, fun i hi => ?_⟩
      by_cases e : i = 16 + j
      · subst e
        rw [show 16 + (j + 1) - 1 - (16 + j) = 0 by omega]
        show wN l = updN (r80 p j) (16 + j) _ (16 + j)
        unfold updN; rw [if_pos rfl]
        unfold wN
        have g2 := h.2 (16 + j - 2) (by omega)
        have g7 := h.2 (16 + j - 7) (by omega)
        have g15 := h.2 (16 + j - 15) (by omega)
        have g16 := h.2 (16 + j - 16) (by omega)
        rw [show 16 + j - 1 - (16 + j - 2) = 1 by omega] at g2
        rw [show 16 + j - 1 - (16 + j - 7) = 6 by omega] at g7
        rw [show 16 + j - 1 - (16 + j - 15) = 14 by omega] at g15
        rw [show 16 + j - 1 - (16 + j - 16) = 15 by omega] at g16
        rw [g2, g7, g15, g16]
      · rw [r80_old p j e, ← h.2 i (by omega), show 16 + (j + 1) - 1 - i = (16 + j - 1 - i) + 1 by omega]
        rfl
    have h3 := wl_rv p k (j + 1) (wN l :: l) h2
    rwa [show j + 1 + k = j + (k + 1) by omega] at h3
/-- The rounds, over the table and the words. -/
def rnd : List Nat → List Nat → Nat → Nat → Nat → Nat → Nat → Nat → Nat → Nat → List Nat
  | c :: cs, r :: rs, v0, v1, v2, v3, v4, v5, v6, v7 =>
    frc ((((((v7 + hiW v4 6 11 25) % B32) + ((v4 &&& v5) ||| ((4294967295 ^^^ v4) &&& v6))) % B32 + c / 2 ^ 32) % B32 + r) % B32) fun o =>
    frc ((o + ((hiW v0 2 13 22 + (((v0 &&& v1) ||| (v0 &&& v2)) ||| (v1 &&& v2))) % B32)) % B32) fun a =>
    frc ((v3 + o) % B32) fun e => rnd cs rs a v0 v1 v2 e v4 v5 v6
  | _, _, v0, v1, v2, v3, v4, v5, v6, v7 => [v0, v1, v2, v3, v4, v5, v6, v7]
theorem rnd_s (c r : Nat) (cs rs : List Nat) (v0 v1 v2 v3 v4 v5 v6 v7 : Nat) : rnd (c :: cs) (r :: rs) v0 v1 v2 v3 v4 v5 v6 v7 = rnd cs rs (((((((v7 + hiW v4 6 11 25) % B32) + ((v4 &&& v5) ||| ((4294967295 ^^^ v4) &&& v6))) % B32 + c / 2 ^ 32) % B32 + r) % B32 + ((hiW v0 2 13 22 + (((v0 &&& v1) ||| (v0 &&& v2)) ||| (v1 &&& v2))) % B32)) % B32) v0 v1 v2 ((v3 + (((((v7 + hiW v4 6 11 25) % B32) + ((v4 &&& v5) ||| ((4294967295 ^^^ v4) &&& v6))) % B32 + c / 2 ^ 32) % B32 + r) % B32) % B32) v4 v5 v6 := by
  show frc _ _ = _
  rw [frc_e, frc_e, frc_e]
theorem rnd_e (H R : Nat → Nat) : ∀ (k t : Nat), rnd ((List.range' t k).map cu) ((List.range' t k).map R) (vS H R t 0) (vS H R t 1) (vS H R t 2) (vS H R t 3) (vS H R t 4) (vS H R t 5) (vS H R t 6) (vS H R t 7) = [vS H R (t + k) 0, vS H R (t + k) 1, vS H R (t + k) 2, vS H R (t + k) 3, vS H R (t + k) 4, vS H R (t + k) 5, vS H R (t + k) 6, vS H R (t + k) 7]
  | 0, t => rfl
  | k + 1, t => by
    have h := rnd_e H R k (t + 1)
    rw [List.range'_succ, List.map_cons, List.map_cons, rnd_s, vS_s0, vS_s4, vS_s1 H R t, vS_s2 H R t, vS_s3 H R t, vS_s5 H R t, vS_s6 H R t, vS_s7 H R t, h, show t + 1 + k = t + (k + 1) by omega]
theorem mixH_w (H p : Nat → Nat) {i : Nat} (hi : i < 8) : mixH H p i = (H i + vS H (r80 p 48) 64 i) % B32 := by
  unfold mixH
  have h1 : ∀ k j, k ≤ j → hF H (vS H (r80 p 48) 64) k j = H j := by
    intro k
    induction k with
    | zero => intro _ _; rfl
    | succ k ih =>
      intro j hj
      show updN (hF H _ k) k _ j = _
      unfold updN; rw [if_neg (by omega)]; exact ih j (by omega)
  have h2 : ∀ k j, j < k → hF H (vS H (r80 p 48) 64) k j = (H j + vS H (r80 p 48) 64 j) % B32 := by
    intro k
    induction k with
    | zero => intro _ h; omega
    | succ k ih =>
      intro j hj
      show updN (hF H _ k) k _ j = _
      unfold updN
      by_cases e : j = k
      · subst e; rw [if_pos rfl, h1 j j (Nat.le_refl _)]
      · rw [if_neg e]; exact ih j (by omega)
  exact h2 8 i hi
end Go.Proofs.YtgnmnoadfjdjdaaDoor.Sh

namespace Go.Proofs.YtgnmnoadfjdjdaaDoor.Sh
open Go.RowKit

theorem map_rev {R : Nat → Nat} {n : Nat} {l : List Nat} (h : Rv R n l) : (List.range' 0 n).map R = l.reverse := by
  apply List.ext_getElem?
  intro i
  rw [List.getElem?_map]
  rcases Nat.lt_or_ge i n with hi | hi
  · rw [List.getElem?_range' hi, Option.map_some, List.getElem?_reverse (by rw [h.1]; exact hi), h.1]
    have h2 := h.2 i hi
    rw [List.getD_eq_getElem?_getD, List.getElem?_eq_getElem (by rw [h.1]; omega), Option.getD_some] at h2
    rw [List.getElem?_eq_getElem (by rw [h.1]; omega), h2]
    simp
  · rw [List.getElem?_eq_none (by simpa using hi), List.getElem?_eq_none (by rw [List.length_reverse, h.1]; exact hi)]; rfl
/-- The words behind one piece. -/
def oneH (H : Nat → Nat) (l0 : List Nat) : List Nat := rnd ((List.range' 0 64).map cu) (wl 48 l0).reverse (H 0) (H 1) (H 2) (H 3) (H 4) (H 5) (H 6) (H 7)
theorem rnd_0 (H R : Nat → Nat) (k : Nat) : rnd ((List.range' 0 k).map cu) ((List.range' 0 k).map R) (H 0) (H 1) (H 2) (H 3) (H 4) (H 5) (H 6) (H 7) = [vS H R k 0, vS H R k 1, vS H R k 2, vS H R k 3, vS H R k 4, vS H R k 5, vS H R k 6, vS H R k 7] := by
  have h := rnd_e H R k 0
  rw [Nat.zero_add] at h
  exact h
theorem get8 (F : Nat → Nat) {i : Nat} (hi : i < 8) : [F 0, F 1, F 2, F 3, F 4, F 5, F 6, F 7].getD i 0 = F i := by
  have hc : i = 0 ∨ i = 1 ∨ i = 2 ∨ i = 3 ∨ i = 4 ∨ i = 5 ∨ i = 6 ∨ i = 7 := by omega
  rcases hc with rfl | rfl | rfl | rfl | rfl | rfl | rfl | rfl <;> rfl
theorem mix_one {H p : Nat → Nat} {l0 : List Nat} (h : Rv (r80 p 0) 16 l0) {i : Nat} (hi : i < 8) : mixH H p i = (H i + (oneH H l0).getD i 0) % B32 := by
  rw [mixH_w H p hi]
  have h2 : (List.range' 0 64).map (r80 p 48) = (wl 48 l0).reverse := map_rev (wl_rv p 48 0 l0 h)
  have h3 := rnd_0 H (r80 p 48) 64
  rw [h2] at h3
  unfold oneH
  rw [h3, get8 (vS H (r80 p 48) 64) hi]
theorem dg_one {n : Nat} {f : Nat → Nat} {l0 : List Nat} (hn : nP n = 1) (h : Rv (r16 (padF f n) 16) 16 l0) {i : Nat} (hi : i < 32) : dg n f i = (bgF 8 (i / 4) + (oneH (bgF 8) l0).getD (i / 4) 0) % B32 / 256 ^ (3 - i % 4) % 256 := by
  have hp : (fun i => padF f n (64 * 0 + i)) = padF f n := by funext i; rw [Nat.mul_zero, Nat.zero_add]
  unfold dg
  rw [outF_e 8 i (by omega), hn]
  show mixH (bgF 8) (fun i => padF f n (64 * 0 + i)) (i / 4) / _ % 256 = _
  rw [hp, mix_one h (by omega)]
def lf0 : List Nat := [8, 0, 0, 0, 0, 0, 0, 0, 0, 0, 0, 0, 0, 0, 0, 8388608]
theorem rv_lf0 : Rv (r16 (padF (fun _ => 0) 1) 16) 16 lf0 := ⟨rfl, by decide +kernel⟩
/-- The leaf of nothing. -/
theorem leaf0 : dg 1 (fun _ => 0) 0 = 110 ∧ dg 1 (fun _ => 0) 1 = 52 := by
  rw [dg_one (by decide +kernel) rv_lf0 (by decide), dg_one (by decide +kernel) rv_lf0 (by decide)]
  decide +kernel
end Go.Proofs.YtgnmnoadfjdjdaaDoor.Sh

namespace Go.Proofs.YtgnmnoadfjdjdaaDoor
open Go.RowKit Sh

/-- Two digests one behind the other, behind a byte 1. -/
def txt (F G : Nat → Nat) (i : Nat) : Nat := if i = 0 then 1 else if i < 33 then F (i - 1) else G (i - 33)
def nd (F G : Nat → Nat) : Nat → Nat := dg 65 (txt F G)
def lfF (f : Nat → Nat) (i : Nat) : Nat := if i = 0 then 0 else f (i - 1)
theorem sum_sz (F : Nat → Nat) : (Tryd.prog.info? 34).map (·.size) = some (ab 32 F).size := by rw [ab_size]; kernel_rfl
theorem sum_new (w : World) : Below w.heap.size w (w.alloc (.cells (ab 32 fun _ => 0) 34)) ∧ (w.alloc (.cells (ab 32 fun _ => 0) 34)).heap[w.heap.size]? = some (.cells (ab 32 fun _ => 0) 34 (0, 0)) :=
  ⟨(Below.refl _ _).alloc (Nat.le_refl _) _, (MapKept.heap_alloc w _).1⟩
/-- The answer is put into its cell. -/
theorem sum_end {W0 w : World} {F : Nat → Nat} (hb : Below W0.heap.size W0 w) (hr : w.heap[W0.heap.size]? = some (.cells (ab 32 fun _ => 0) 34 (0, 0))) : Below W0.heap.size W0 (w.setRow W0.heap.size (ab 32 F)) ∧ (w.setRow W0.heap.size (ab 32 F)).heap[W0.heap.size]? = some (.cells (ab 32 F) 34 (0, 0)) := by
  have h := wrt_row (c' := ab 32 F) hr
  exact ⟨below_wrt hb h (Nat.le_refl _) hb.size, h.row⟩
theorem sum_ret {fn : Func} {a : Act} {w W0 : World} {F : Nat → Nat} {p : Tmp} {R : Ending → World → Prop} (hrs : fn.results = #[.cell p 34]) (ht : a.tmps[p]?.getD undef = .pointer (some ⟨W0.heap.size, 0, none⟩)) (hd : a.defers = []) (hr : w.heap[W0.heap.size]? = some (.cells (ab 32 F) 34 (0, 0))) (hR : R (.returned (.agg (ab 32 F))) w) : bodyPost Tryd.prog fn R .ret a w :=
  bodyPost_ret (v := .agg (ab 32 F)) (results_row hrs _ ht Tryd.underlying34 (sum_sz F) hr) (by rw [hd]) hR
set_option maxHeartbeats 4000000 in
set_option maxRecDepth 100000 in
theorem empty_d {W0 : World} (hg : Gl W0) : Calls Tryd.prog 60 #[] W0 fun e w' => e = .returned (.agg (ab 32 (dg 0 fun _ => 0))) ∧ Below W0.heap.size W0 w' := by
  obtain ⟨hal, hr0⟩ := sum_new W0
  obtain ⟨F, hF⟩ : ∃ F, Hid (F = dg 0 (fun _ => 0)) := ⟨_, hide1 rfl⟩
  rw [← hF.out]
  go_enter Tryd.func60, Tryd.ntmps60
  go_upto_region 1 with fail
  refine Eq.mpr (congrArg (fun c => Code.wp _ _ _ _ (W0.alloc (.cells c 34))) (?h : _ = ab 32 (fun _ => 0))) ?_
  case h => kernel_rfl
  generalize W0.alloc (.cells (ab 32 fun _ => 0) 34) = w1 at hal hr0 ⊢
  have hs := short_dg (L := []) (pa := none) (pc := 0) (gl_b hg hal) (fun h => absurd h (by simp)) (by simp) (by simp [lenS]) (by simp)
  have e1 : dg (lenS []) (joinF []) = dg 0 (fun _ => 0) := rfl
  rw [e1] at hs
  replace hs : Calls Tryd.prog 74 #[.slice none 0 0] w1 _ := hs
  rw [← hF.out] at hs
  clear e1
  go_wp2_with fail
  refine hs.mono ?_
  rintro e w2 ⟨rfl, hb2⟩
  have hr2 := (hb2.block _ (Array.getElem?_eq_some_iff.1 hr0).1).trans hr0
  have hb02 := hal.trans (hb2.mono hal.size)
  obtain ⟨h3, h4⟩ := sum_end (F := F) hb02 hr2
  go_wp2_with (refine wpList_store_row rfl 34 (.tmp 0) (.tmp 1) rfl W0.heap.size (ab 32 F) (ab 32 fun _ => 0) 34 rfl rfl (sum_sz F) hr2 (by rw [ab_size, ab_size]) (ab_one _ _) rfl ?_)
  exact sum_ret rfl rfl rfl h4 ⟨rfl, h3⟩
/-- Two parts, three parts, in memory. -/
theorem ps_2 {w : World} {g : Nat} {x y : Pt} {a b : Option Addr} {ca cb : Nat} {t : TypeId} (h : w.heap[g]? = some (.cells #[.slice a x.1 ca, .slice b y.1 cb] t (0, 0))) (ha : Bs w a x.1 x.2) (hca : x.1 ≤ ca) (hla : ∀ p, a = some p → p.block < w.heap.size) (hb : Bs w b y.1 y.2) (hcb : y.1 ≤ cb) (hlb : ∀ p, b = some p → p.block < w.heap.size) : PsAt w (some ⟨g, 0, none⟩) [x, y] := fun _ =>
  ⟨g, 0, rfl, fun i hi => by
    have hc : i = 0 ∨ i = 1 := by simp at hi; omega
    rcases hc with rfl | rfl
    · exact ⟨a, ca, by rw [cell_of_row _ _ _ _ _ _ h]; rfl, ha, hca, hla⟩
    · exact ⟨b, cb, by rw [cell_of_row _ _ _ _ _ _ h]; rfl, hb, hcb, hlb⟩⟩
theorem ps_3 {w : World} {g : Nat} {x y z : Pt} {a b c : Option Addr} {ca cb cc : Nat} {t : TypeId} (h : w.heap[g]? = some (.cells #[.slice a x.1 ca, .slice b y.1 cb, .slice c z.1 cc] t (0, 0))) (ha : Bs w a x.1 x.2) (hca : x.1 ≤ ca) (hla : ∀ p, a = some p → p.block < w.heap.size) (hb : Bs w b y.1 y.2) (hcb : y.1 ≤ cb) (hlb : ∀ p, b = some p → p.block < w.heap.size) (hc : Bs w c z.1 z.2) (hcc : z.1 ≤ cc) (hlc : ∀ p, c = some p → p.block < w.heap.size) : PsAt w (some ⟨g, 0, none⟩) [x, y, z] := fun _ =>
  ⟨g, 0, rfl, fun i hi => by
    have hi : i = 0 ∨ i = 1 ∨ i = 2 := by simp at hi; omega
    rcases hi with rfl | rfl | rfl
    · exact ⟨a, ca, by rw [cell_of_row _ _ _ _ _ _ h]; rfl, ha, hca, hla⟩
    · exact ⟨b, cb, by rw [cell_of_row _ _ _ _ _ _ h]; rfl, hb, hcb, hlb⟩
    · exact ⟨c, cc, by rw [cell_of_row _ _ _ _ _ _ h]; rfl, hc, hcc, hlc⟩⟩
theorem join_leaf (len : Nat) (f : Nat → Nat) : dg (lenS [(1, fun _ => 0), (len, f)]) (joinF [(1, fun _ => 0), (len, f)]) = dg (1 + len) (lfF f) := by
  have e : lenS [(1, fun _ => 0), (len, f)] = 1 + len := by simp [lenS]
  rw [e]
  refine dg_cong fun i hi => ?_
  show (if i < 1 then 0 else if i - 1 < len then f (i - 1) else 0) = lfF f i
  unfold lfF
  by_cases h : i = 0
  · subst h; rfl
  · rw [if_neg (by omega), if_pos (by omega), if_neg h]
theorem join_node (F G : Nat → Nat) : dg (lenS [(1, fun _ => 1), (32, F), (32, G)]) (joinF [(1, fun _ => 1), (32, F), (32, G)]) = nd F G := by
  have e : lenS [(1, fun _ => 1), (32, F), (32, G)] = 65 := by simp [lenS]
  rw [e]
  refine dg_cong fun i hi => ?_
  show (if i < 1 then 1 else if i - 1 < 32 then F (i - 1) else if i - 1 - 32 < 32 then G (i - 1 - 32) else 0) = txt F G i
  unfold txt
  by_cases h : i = 0
  · subst h; rfl
  · rw [if_neg (by omega), if_neg h]
    by_cases h1 : i < 33
    · rw [if_pos (by omega), if_pos h1]
    · rw [if_neg (by omega), if_neg h1, if_pos (by omega), show i - 1 - 32 = i - 33 by omega]
end Go.Proofs.YtgnmnoadfjdjdaaDoor

namespace Go.Proofs.YtgnmnoadfjdjdaaDoor
open Go.RowKit Sh

theorem stopAt {p : Prop} (h : Hid p) : p := h.out
theorem st_cells {w : World} {b : Nat} {c : Array Value} {t0 : TypeId} {F : Nat → Nat} (hr : w.heap[b]? = some (.cells c t0 (0, 0))) (hs : c.size = 32) : (storeCells ⟨b, 0, none⟩ (ab 32 F).toList).run Tryd.prog w = .ok () (w.setRow b (ab 32 F)) := by
  have := run_storeCells_from (P := Tryd.prog) b t0 (ab 32 F).toList 0 c w hr (by simp [ab_size, hs]) (fun v hv => (Array.all_eq_true_iff_forall_mem.1 (ab_one 32 F)) v (by simpa using hv))
  simpa using this
/-- Steps of a region that draws: a call of the short digest; a digest put into its cell. -/
theorem step_short {w : World} {ops : Array Oper} {o : Oper} {a : Act} {K : Act → World → Prop} {Q : Exit → Act → World → Prop} {E : Prop} (hgd : o.guard = none) (x : Operand) {tys : Array TypeId}
    (ho : o.op = .call { callee := .value (.func 74), args := #[x], argTypes := tys }) {v R : Value} {J : World → Prop} (hx : a.eval x = v) (hc : Calls Tryd.prog 74 #[v] w fun e w' => e = .returned R ∧ J w') (he : ∀ w, (callFunc 74 #[v]).run Tryd.prog w = .ok (.enter 74 #[v]) w)
    (h : ∀ w', J w' → K (a.put o.dst R) w') : if Region.wanted o (yielded ops a.tmps) = true then Oper.wp Tryd.prog o a w K Q else E := by
  have hw : Region.wanted o (yielded ops a.tmps) = true := by simp [Region.wanted, hgd]
  rw [if_pos hw]
  exact oper_callg 74 #[x] tys ho #[v] (by simp [hx]) he hc h
set_option maxHeartbeats 4000000 in
set_option maxRecDepth 100000 in
theorem node_d {F G : Nat → Nat} {W0 : World} (hg : Gl W0) (hF : ∀ i, F i < 256) (hG : ∀ i, G i < 256) : Calls Tryd.prog 62 #[.agg (ab 32 F), .agg (ab 32 G)] W0 fun e w' => e = .returned (.agg (ab 32 (nd F G))) ∧ Below W0.heap.size W0 w' := by
  rw [← join_node F G]
  obtain ⟨L, hL⟩ : ∃ L : List Pt, Hid (L = [(1, fun _ => 1), (32, F), (32, G)]) := ⟨_, hide1 rfl⟩
  rw [← hL.out]
  obtain ⟨R, hR⟩ : ∃ R, Hid (R = dg (lenS L) (joinF L)) := ⟨_, hide1 rfl⟩
  rw [← hR.out]
  obtain ⟨A, hA⟩ : ∃ A, Hid (A = ab 32 F) := ⟨_, hide1 rfl⟩
  obtain ⟨B, hB⟩ : ∃ B, Hid (B = ab 32 G) := ⟨_, hide1 rfl⟩
  rw [← hA.out, ← hB.out]
  have bxA : ∀ w : World, (Instr.box 34 (.agg A)).run Tryd.prog w = .ok (.pointer (some ⟨w.heap.size, 0, none⟩)) (w.alloc (.cells A 34)) := fun w => bx_agg w
  have bxB : ∀ w : World, (Instr.box 34 (.agg B)).run Tryd.prog w = .ok (.pointer (some ⟨w.heap.size, 0, none⟩)) (w.alloc (.cells B 34)) := fun w => bx_agg w
  have hzs : ∀ w : World, (zeroValue 34).run Tryd.prog w = .ok (.agg (ab 32 fun _ => 0)) w := fun w => by kernel_rfl
  obtain ⟨w1, hw1⟩ : ∃ w1, Hid (w1 = ((W0.alloc (.cells A 34)).alloc (.cells B 34)).alloc (.cells (ab 32 fun _ => 0) 34)) := ⟨_, hide1 rfl⟩
  have h1 : Below W0.heap.size W0 w1 := by rw [hw1.out]; exact (((Below.refl _ _).alloc (Nat.le_refl _) _).alloc (by simp) _).alloc (by simp; omega) _
  go_enter Tryd.func62, Tryd.ntmps62
  go_upto_region 1 with fail
  rw [← hw1.out]
  have rA : w1.heap[W0.heap.size]? = some (.cells A 34 (0, 0)) := by
    rw [hw1.out, Below.heap_alloc _ _ _ (by simp; omega), Below.heap_alloc _ _ _ (by simp)]; exact (MapKept.heap_alloc W0 _).1
  have rB : w1.heap[W0.heap.size + 1]? = some (.cells B 34 (0, 0)) := by
    rw [hw1.out, Below.heap_alloc _ _ _ (by simp)]
    have := (MapKept.heap_alloc (W0.alloc (.cells A 34)) (.cells B 34)).1
    rwa [show (W0.alloc (.cells A 34)).heap.size = W0.heap.size + 1 by simp] at this
  have r0 : w1.heap[W0.heap.size + 1 + 1]? = some (.cells (ab 32 fun _ => 0) 34 (0, 0)) := by
    rw [hw1.out]
    have := (MapKept.heap_alloc ((W0.alloc (.cells A 34)).alloc (.cells B 34)) (.cells (ab 32 fun _ => 0) 34)).1
    rwa [show ((W0.alloc (.cells A 34)).alloc (.cells B 34)).heap.size = W0.heap.size + 1 + 1 by simp] at this
  have hl0 := (Array.getElem?_eq_some_iff.1 r0).1
  obtain ⟨w3, hw3⟩ : ∃ w3, Hid (w3 = ((w1.alloc (.cells #[.int .u8 1] 5)).alloc (.cells #[.slice (some ⟨w1.heap.size, 0, none⟩) 1 1, .slice (some ⟨W0.heap.size, 0, none⟩) 32 32, .slice (some ⟨W0.heap.size + 1, 0, none⟩) 32 32] 97)).drew) := ⟨_, hide1 rfl⟩
  have h13 : Below w1.heap.size w1 w3 := by rw [hw3.out]; exact (((Below.refl _ _).alloc (Nat.le_refl _) _).alloc (by simp) _).drew
  have ho : Bs w3 (some ⟨w1.heap.size, 0, none⟩) 1 (fun _ => 1) := by
    rw [hw3.out]; exact (bs_one w1 1 (by decide)).later ((Below.refl _ _).alloc (Nat.le_refl _) _).drew
  have h3r : w3.heap[w1.heap.size + 1]? = some (.cells #[.slice (some ⟨w1.heap.size, 0, none⟩) 1 1, .slice (some ⟨W0.heap.size, 0, none⟩) 32 32, .slice (some ⟨W0.heap.size + 1, 0, none⟩) 32 32] 97 (0, 0)) := by
    rw [hw3.out]
    have := (MapKept.heap_alloc (w1.alloc (.cells #[.int .u8 1] 5)) (.cells #[.slice (some ⟨w1.heap.size, 0, none⟩) 1 1, .slice (some ⟨W0.heap.size, 0, none⟩) 32 32, .slice (some ⟨W0.heap.size + 1, 0, none⟩) 32 32] 97)).1
    rwa [show (w1.alloc (.cells #[.int .u8 1] 5)).heap.size = w1.heap.size + 1 by simp] at this
  have hl3 := (Array.getElem?_eq_some_iff.1 h3r).1
  have bA : Bs w3 (some ⟨W0.heap.size, 0, none⟩) 32 F := by
    have := bs_ab (off := 0) (n := 32) hF (by rw [hA.out] at rA; exact rA) (Nat.le_refl _)
    simpa using this.later h13
  have bB : Bs w3 (some ⟨W0.heap.size + 1, 0, none⟩) 32 G := by
    have := bs_ab (off := 0) (n := 32) hG (by rw [hB.out] at rB; exact rB) (Nat.le_refl _)
    simpa using this.later h13
  have hcall := short_dg (pc := 3) (gl_b (gl_b hg h1) h13) (ps_3 (x := (1, fun _ => 1)) (y := (32, F)) (z := (32, G)) h3r ho (Nat.le_refl _) (fun p e => by cases e; show w1.heap.size < _; omega) bA (Nat.le_refl _) (fun p e => by cases e; show W0.heap.size < _; omega) bB (Nat.le_refl _) (fun p e => by cases e; show W0.heap.size + 1 < _; omega)) (fun y hy i => by
      rcases List.mem_cons.1 hy with rfl | hy
      · show 1 < 256; decide
      · rcases List.mem_cons.1 hy with rfl | hy
        · exact hF i
        · rcases List.mem_cons.1 hy with rfl | hy
          · exact hG i
          · cases hy) (by simp [lenS]) (by simp)
  rw [← hL.out, ← hR.out, show L.length = 3 by rw [hL.out]; rfl] at hcall
  rw [hw3.out] at hcall
  clear hzs bxA bxB
  have hq : ∀ w4, Below w3.heap.size w3 w4 → w4.heap[W0.heap.size + 1 + 1]? = some (.cells (ab 32 fun _ => 0) 34 (0, 0)) ∧ Below W0.heap.size W0 w4 := fun w4 hb4 => ⟨((h13.trans (hb4.mono h13.size)).block _ hl0).trans r0, h1.trans ((h13.trans (hb4.mono h13.size)).mono h1.size)⟩
  rw [hw3.out] at hq
  replace hq := hide1 hq
  clear rA rB r0 hl0 h13 ho h3r hl3 bA bB h1
  have hsz := ab_size 32 R
  go_region_law (refine step_short rfl (.tmp 8) rfl (by first | (simp [Act.eval]; done) | (simp [Act.eval, Act.put]; done) | rfl) hcall (fun w => by kernel_rfl) ?_; intro w4 hb4; obtain ⟨hr4, hb04⟩ := hq.out w4 hb4; have hw5 := wrt_row (c' := ab 32 R) hr4; have hf5 := below_wrt hb04 hw5 (by omega) hb04.size; have hst := st_cells (F := R) hr4 (ab_size _ _); replace hw5 := hw5.row; replace hb04 := hide1 hb04; replace hr4 := hide1 hr4; replace hw5 := hide1 hw5; replace hf5 := hide1 hf5; clear hb4)
  all_goals go_wp2
  all_goals exact bodyPost_ret (v := .agg (ab 32 R)) (results_row rfl _ rfl Tryd.underlying34 (sum_sz R) hw5.out) rfl ⟨rfl, hf5.out⟩

/-- The greatest power of two below a number. -/
def cut (n : Nat) : Nat := if n < 2 then 0 else 2 ^ (n - 1).log2
theorem cut_of {n j : Nat} (h1 : 2 ^ j < n) (h2 : n ≤ 2 * 2 ^ j) : cut n = 2 ^ j := by
  have h0 : 1 ≤ 2 ^ j := Nat.one_le_two_pow
  unfold cut
  rw [if_neg (by omega)]
  have : (n - 1).log2 = j := (Nat.log2_eq_iff (by omega)).2 ⟨by omega, by rw [Nat.pow_succ]; omega⟩
  rw [this]
theorem cut_in {n : Nat} (h : 2 ≤ n) : 1 ≤ cut n ∧ cut n < n ∧ n ≤ 2 * cut n := by
  unfold cut
  rw [if_neg (by omega)]
  obtain ⟨h1, h2⟩ := (Nat.log2_eq_iff (n := n - 1) (k := (n - 1).log2) (by omega)).1 rfl
  rw [Nat.pow_succ] at h2
  have h0 : 1 ≤ 2 ^ (n - 1).log2 := Nat.one_le_two_pow
  omega
theorem cut_lo {n : Nat} (h : n < 2) : cut n = 0 := if_pos h
set_option maxHeartbeats 1000000 in
theorem cut_d (n : Int) (hn : n ≤ 9223372036854775807) (w : World) : Calls Tryd.prog 61 #[.int .i64 n] w fun e w' => e = .returned (.int .i64 ((cut n.toNat : Nat) : Int)) ∧ w' = w := by
  by_cases h2 : n < 2
  · rw [cut_lo (by omega)]
    go_enter Tryd.func61, Tryd.ntmps61
    go_wp2
    go_ret
    exact ⟨rfl, rfl⟩
  · obtain ⟨m, rfl⟩ : ∃ m : Nat, n = (m : Int) := ⟨n.toNat, by omega⟩
    rw [Int.toNat_natCast]
    obtain ⟨C, hC⟩ : ∃ C, Hid (C = cut m) := ⟨_, hide1 rfl⟩
    rw [← hC.out]
    go_enter Tryd.func61, Tryd.ntmps61
    go_wp2
    go_loopw [3] (fun v wr => ∃ j : Nat, v = .int .i64 ((2 ^ j : Nat) : Int) ∧ 2 ^ j < m ∧ wr = w) (fun v _ => m - (intOf v).toNat)
    case atStart => exact ⟨0, rfl, by omega, rfl⟩
    case round =>
      obtain ⟨j, rfl, hj, rfl⟩ := hrel
      have h0 : 1 ≤ 2 ^ j := Nat.one_le_two_pow
      have hs : 2 ^ (j + 1) = 2 ^ j * 2 := Nat.pow_succ ..
      have hc := fun h => cut_of (n := m) (j := j) hj h
      generalize 2 ^ j = k at *
      by_cases hlt : k + k < m
      · have ht : (k : Int) < (m : Int) - (k : Int) := by omega
        go_wp2
        exact ⟨⟨j + 1, by rw [hs]; rfl, by rw [hs]; omega, trivial⟩, by simp [intOf]; omega⟩
      · have ht : ¬ (k : Int) < (m : Int) - (k : Int) := by omega
        have hk : C = k := by rw [hC.out]; exact hc (by omega)
        subst hk
        go_wp2
        go_ret
        exact ⟨rfl, rfl⟩
set_option maxHeartbeats 1000000 in
theorem cut_r (n : Int) (hn : n ≤ 9223372036854775807) (w : World) : Calls Tryd.prog 43 #[.int .i64 n] w fun e w' => e = .returned (.int .i64 ((cut n.toNat : Nat) : Int)) ∧ w' = w := by
  by_cases h2 : n < 2
  · rw [cut_lo (by omega)]
    go_enter Tryd.func43, Tryd.ntmps43
    go_wp2
    go_ret
    exact ⟨rfl, rfl⟩
  · obtain ⟨m, rfl⟩ : ∃ m : Nat, n = (m : Int) := ⟨n.toNat, by omega⟩
    rw [Int.toNat_natCast]
    obtain ⟨C, hC⟩ : ∃ C, Hid (C = cut m) := ⟨_, hide1 rfl⟩
    rw [← hC.out]
    go_enter Tryd.func43, Tryd.ntmps43
    go_wp2
    go_loopw [3] (fun v wr => ∃ j : Nat, v = .int .i64 ((2 ^ j : Nat) : Int) ∧ 2 ^ j < m ∧ wr = w) (fun v _ => m - (intOf v).toNat)
    case atStart => exact ⟨0, rfl, by omega, rfl⟩
    case round =>
      obtain ⟨j, rfl, hj, rfl⟩ := hrel
      have h0 : 1 ≤ 2 ^ j := Nat.one_le_two_pow
      have hs : 2 ^ (j + 1) = 2 ^ j * 2 := Nat.pow_succ ..
      have hc := fun h => cut_of (n := m) (j := j) hj h
      generalize 2 ^ j = k at *
      by_cases hlt : k + k < m
      · have ht : (k : Int) ≤ ((m : Int) - 1) / 2 := by omega
        have ht' : (k : Int) ≤ ((m : Int) - 1).tdiv 2 := by rw [Int.tdiv_eq_ediv_of_nonneg (by omega)]; omega
        go_wp2
        exact ⟨⟨j + 1, by rw [hs]; simp; omega, by rw [hs]; omega, trivial⟩, by simp [intOf]; omega⟩
      · have ht : ¬ (k : Int) ≤ ((m : Int) - 1) / 2 := by omega
        have ht' : ¬ (k : Int) ≤ ((m : Int) - 1).tdiv 2 := by rw [Int.tdiv_eq_ediv_of_nonneg (by omega)]; omega
        have hk : C = k := by rw [hC.out]; exact hc (by omega)
        subst hk
        go_wp2
        go_ret
        exact ⟨rfl, rfl⟩
end Go.Proofs.YtgnmnoadfjdjdaaDoor

namespace Go.Proofs.YtgnmnoadfjdjdaaDoor
open Go.RowKit Go.Maps Sh

/-- An append in a region that draws. -/
theorem step_append_f {w : World} {ops : Array Oper} {o : Oper} {a : Act} {K : Act → World → Prop} {Q : Exit → Act → World → Prop} {E : Prop} (hgd : o.guard = none) (s x : Operand)
    (ho : o.op = .call { callee := .builtin .append, args := #[s, x], argTypes := #[97, 97] }) (base : Nat)
    (v : Value) (n : Nat) (xs : List Value) (hs : a.eval s = v) (hown : w.ownsRow base 5 1 v n xs) (ad : Option Addr) (m c : Nat) (f : Nat → Nat) (hx : a.eval x = .slice ad m c) (hb : Bs w ad m f)
    (hbytes : n + m ≤ 140737488355328) (hbase : base ≤ w.heap.size)
    (h : ∀ v' w', w'.ownsRow base 5 1 v' (n + m) (xs ++ bvs m f) → w.grownBy w' v.ownBlock → (v'.ownBlock = v.ownBlock ∨ ∀ k, v'.ownBlock = some k → w.heap.size ≤ k) → K (a.put o.dst v') w') : if Region.wanted o (yielded ops a.tmps) = true then Oper.wp Tryd.prog o a w K Q else E := by
  have hw : Region.wanted o (yielded ops a.tmps) = true := by simp [Region.wanted, hgd]
  rw [if_pos hw]
  obtain ⟨v', w', hr, h2, h3, h4⟩ := run_append_f w base o.type v n xs hown ad m c f hb hbytes hbase
  unfold Oper.wp execOp
  simp only [ho, resolve, invoke, builtin, Sem.run_bind, Sem.run_pure, Result.andThen_ok, List.map_toArray, List.map_cons, List.map_nil, hs, hx, hr]
  exact h v' w' h2 h3 h4
theorem own_one (w : World) (x : Nat) : (w.alloc (.cells #[.int .u8 ((x : Nat) : Int)] 5)).ownsRow w.heap.size 5 1 (.slice (some ⟨w.heap.size, 0, none⟩) 1 1) 1 (bvs 1 fun _ => x) :=
  ⟨rfl, .inr ⟨w.heap.size, 1, _, rfl, Nat.le_refl _, (MapKept.heap_alloc w _).1, Nat.le_refl _, by decide, rfl, rfl⟩⟩
theorem txt_b {F G : Nat → Nat} (hF : ∀ i, F i < 256) (hG : ∀ i, G i < 256) (i : Nat) : txt F G i < 256 := by
  unfold txt
  split
  · decide
  · split
    · exact hF _
    · exact hG _
set_option maxHeartbeats 4000000 in
set_option maxRecDepth 100000 in
theorem text_r {F G : Nat → Nat} {W0 : World} (hF : ∀ i, F i < 256) (hG : ∀ i, G i < 256) : Calls Tryd.prog 69 #[.agg (ab 32 F), .agg (ab 32 G)] W0 fun e w' => ∃ a cap, e = .returned (.slice a 65 cap) ∧ Bs w' a 65 (txt F G) ∧ 65 ≤ cap ∧ (∀ x, a = some x → W0.heap.size ≤ x.block) ∧ Below W0.heap.size W0 w' := by
  obtain ⟨A, hA⟩ : ∃ A, Hid (A = ab 32 F) := ⟨_, hide1 rfl⟩
  obtain ⟨B, hB⟩ : ∃ B, Hid (B = ab 32 G) := ⟨_, hide1 rfl⟩
  obtain ⟨T, hT⟩ : ∃ T, Hid (T = txt F G) := ⟨_, hide1 rfl⟩
  have hTl : ∀ i, T i < 256 := by rw [hT.out]; exact txt_b hF hG
  have hX1 : bvs 1 (fun _ => 1) ++ bvs 32 F = bvs 33 T := by
    rw [show bvs 1 (fun _ => 1) = bvs 1 T from bvs_cong fun i hi => by rw [hT.out]; unfold txt; rw [if_pos (by omega)]]
    exact bvs_app fun i hi => by rw [hT.out]; unfold txt; rw [if_neg (by omega), if_pos (by omega), show 1 + i - 1 = i by omega]
  have hX2 : bvs 33 T ++ bvs 32 G = bvs 65 T := bvs_app fun i hi => by rw [hT.out]; unfold txt; rw [if_neg (by omega), if_neg (by omega), show 33 + i - 33 = i by omega]
  rw [← hA.out, ← hB.out, ← hT.out]
  have bxA : ∀ w : World, (Instr.box 34 (.agg A)).run Tryd.prog w = .ok (.pointer (some ⟨w.heap.size, 0, none⟩)) (w.alloc (.cells A 34)) := fun w => bx_agg w
  have bxB : ∀ w : World, (Instr.box 34 (.agg B)).run Tryd.prog w = .ok (.pointer (some ⟨w.heap.size, 0, none⟩)) (w.alloc (.cells B 34)) := fun w => bx_agg w
  obtain ⟨w1, hw1⟩ : ∃ w1, Hid (w1 = (W0.alloc (.cells A 34)).alloc (.cells B 34)) := ⟨_, hide1 rfl⟩
  have h1 : Below W0.heap.size W0 w1 := by rw [hw1.out]; exact ((Below.refl _ _).alloc (Nat.le_refl _) _).alloc (by simp) _
  have rA : w1.heap[W0.heap.size]? = some (.cells A 34 (0, 0)) := by
    rw [hw1.out, Below.heap_alloc _ _ _ (by simp)]; exact (MapKept.heap_alloc W0 _).1
  have rB : w1.heap[W0.heap.size + 1]? = some (.cells B 34 (0, 0)) := by
    rw [hw1.out]
    have := (MapKept.heap_alloc (W0.alloc (.cells A 34)) (.cells B 34)).1
    rwa [show (W0.alloc (.cells A 34)).heap.size = W0.heap.size + 1 by simp] at this
  have bA : ∀ w', Below w1.heap.size w1 w' → Bs w' (some ⟨W0.heap.size, 0, none⟩) 32 F := fun w' hb => by
    have := bs_ab (off := 0) (n := 32) hF (by rw [hA.out] at rA; exact rA) (Nat.le_refl _)
    simpa using this.later hb
  have bB : ∀ w', Below w1.heap.size w1 w' → Bs w' (some ⟨W0.heap.size + 1, 0, none⟩) 32 G := fun w' hb => by
    have := bs_ab (off := 0) (n := 32) hG (by rw [hB.out] at rB; exact rB) (Nat.le_refl _)
    simpa using this.later hb
  have hs1 := h1.size
  have hoX : ∀ w' : World, w'.heap = (w1.alloc (.cells #[.int .u8 1] 5)).heap → w'.ownsRow w1.heap.size 5 1 (.slice (some ⟨w1.heap.size, 0, none⟩) 1 1) 1 (bvs 1 fun _ => 1) := fun w' hw => by
    have h := own_one w1 1
    exact ⟨h.1, by
      rcases h.2 with e | ⟨g, cap, cur, r1, r2, r3, r4⟩
      · exact .inl e
      · exact .inr ⟨g, cap, cur, r1, r2, by rw [hw]; exact r3, r4⟩⟩
  go_enter Tryd.func69, Tryd.ntmps69
  go_upto_region 1 with fail
  rw [← hw1.out]
  replace hoX := hide1 hoX
  clear bxA bxB rA rB
  go_region_law (first
    | (refine step_append_f rfl (.tmp 5) (.tmp 6) rfl w1.heap.size _ 1 _ (by first | (simp [Act.eval]; done) | (simp [Act.eval, Act.put]; done) | rfl) (hoX.out _ rfl) _ 32 32 F (by first | (simp [Act.eval]; done) | (simp [Act.eval, Act.put]; done) | rfl) (bA _ (((Below.refl _ _).alloc (Nat.le_refl _) _).drew)) (by omega) (by simp) ?_
       intro v1 w2 ho2 hg2 _
       rw [hX1] at ho2
       have hw2 := below_app (((Below.refl _ _).alloc (Nat.le_refl _) _).drew) (by simp) (hoX.out _ rfl) hg2
       obtain ⟨a1, c1, rfl, -, -⟩ := bs_own ho2 hTl
       have hs2 := hide1 hw2.size
       clear hg2)
    | (refine step_append_f rfl (.tmp 7) (.tmp 8) rfl w1.heap.size _ 33 _ (by first | (simp [Act.eval]; done) | (simp [Act.eval, Act.put]; done) | rfl) ho2 _ 32 32 G (by first | (simp [Act.eval]; done) | (simp [Act.eval, Act.put]; done) | rfl) (bB _ hw2) (by omega) hs2.out ?_
       intro v2 w3 ho3 hg3 _
       rw [hX2] at ho3
       have hw3 := below_app hw2 hs2.out ho2 hg3
       obtain ⟨a2, c2, rfl, hb3, hc3⟩ := bs_own ho3 hTl
       have hn3 : ∀ x, a2 = some x → W0.heap.size ≤ x.block := fun x e => Nat.le_trans hs1 (ho3.lt x.block (by rw [e]; rfl)).1
       have hf3 := h1.trans (hw3.mono hs1)
       replace hb3 := hide1 hb3
       replace hf3 := hide1 hf3
       clear hg3 ho3 ho2))
  all_goals
    go_wp2
    go_ret
    exact ⟨a2, c2, rfl, hb3.out, hc3, hn3, hf3.out⟩
end Go.Proofs.YtgnmnoadfjdjdaaDoor

namespace Go.Proofs.YtgnmnoadfjdjdaaDoor
open Go.RowKit Go.Maps Sh

set_option maxHeartbeats 4000000 in
set_option maxRecDepth 100000 in
theorem node_r {F G : Nat → Nat} {W0 : World} (hF : ∀ i, F i < 256) (hG : ∀ i, G i < 256) : Calls Tryd.prog 44 #[.agg (ab 32 F), .agg (ab 32 G)] W0 fun e w' => e = .returned (.agg (ab 32 (nd F G))) ∧ Below W0.heap.size W0 w' := by
  obtain ⟨R, hR⟩ : ∃ R, Hid (R = nd F G) := ⟨_, hide1 rfl⟩
  rw [← hR.out]
  have hzs : ∀ w : World, (zeroValue 34).run Tryd.prog w = .ok (.agg (ab 32 fun _ => 0)) w := fun w => by kernel_rfl
  have htx := fun w => text_r (W0 := w) hF hG
  have hsh := fun (w : World) a cap (hb : Bs w a 65 (txt F G)) => refShort_d (cap := cap) hb (by omega)
  rw [show dg 65 (txt F G) = R by rw [hR.out]; rfl] at hsh
  generalize txt F G = T at *
  obtain ⟨A, hA⟩ : ∃ A, Hid (A = ab 32 F) := ⟨_, hide1 rfl⟩
  obtain ⟨B, hB⟩ : ∃ B, Hid (B = ab 32 G) := ⟨_, hide1 rfl⟩
  have iA : (Tryd.prog.info? 34).map (·.size) = some A.size := by rw [hA.out]; exact sum_sz F
  have iB : (Tryd.prog.info? 34).map (·.size) = some B.size := by rw [hB.out]; exact sum_sz G
  rw [← hA.out, ← hB.out] at htx
  rw [← hA.out, ← hB.out]
  have bxA : ∀ w : World, (Instr.box 34 (.agg A)).run Tryd.prog w = .ok (.pointer (some ⟨w.heap.size, 0, none⟩)) (w.alloc (.cells A 34)) := fun w => bx_agg w
  have bxB : ∀ w : World, (Instr.box 34 (.agg B)).run Tryd.prog w = .ok (.pointer (some ⟨w.heap.size, 0, none⟩)) (w.alloc (.cells B 34)) := fun w => bx_agg w
  obtain ⟨w1, hw1⟩ : ∃ w1, Hid (w1 = ((W0.alloc (.cells A 34)).alloc (.cells B 34)).alloc (.cells (ab 32 fun _ => 0) 34)) := ⟨_, hide1 rfl⟩
  have h1 : Below W0.heap.size W0 w1 := by rw [hw1.out]; exact (((Below.refl _ _).alloc (Nat.le_refl _) _).alloc (by simp) _).alloc (by simp; omega) _
  have rA : w1.heap[W0.heap.size]? = some (.cells A 34 (0, 0)) := by
    rw [hw1.out, Below.heap_alloc _ _ _ (by simp; omega), Below.heap_alloc _ _ _ (by simp)]; exact (MapKept.heap_alloc W0 _).1
  have rB : w1.heap[W0.heap.size + 1]? = some (.cells B 34 (0, 0)) := by
    rw [hw1.out, Below.heap_alloc _ _ _ (by simp)]
    have := (MapKept.heap_alloc (W0.alloc (.cells A 34)) (.cells B 34)).1
    rwa [show (W0.alloc (.cells A 34)).heap.size = W0.heap.size + 1 by simp] at this
  have r0 : w1.heap[W0.heap.size + 1 + 1]? = some (.cells (ab 32 fun _ => 0) 34 (0, 0)) := by
    rw [hw1.out]
    have := (MapKept.heap_alloc ((W0.alloc (.cells A 34)).alloc (.cells B 34)) (.cells (ab 32 fun _ => 0) 34)).1
    rwa [show ((W0.alloc (.cells A 34)).alloc (.cells B 34)).heap.size = W0.heap.size + 1 + 1 by simp] at this
  have hl0 := (Array.getElem?_eq_some_iff.1 r0).1
  go_enter Tryd.func44, Tryd.ntmps44
  go_upto_region 1 with fail
  rw [← hw1.out]
  clear bxA bxB hzs
  go_wp2_with (first
    | (refine wpList_load_row rfl 34 (.tmp 2) rfl W0.heap.size A 34 rfl Tryd.underlying34 iA rA ?_)
    | (refine wpList_load_row rfl 34 (.tmp 3) rfl (W0.heap.size + 1) B 34 rfl Tryd.underlying34 iB rB ?_))
  refine (htx w1).mono ?_
  rintro e w2 ⟨a, cap, rfl, hb2, -, -, hbl2⟩
  go_wp2_with fail
  refine (hsh w2 a cap hb2).mono ?_
  rintro e w3 ⟨rfl, hb3⟩
  have hb13 := hbl2.trans (hb3.mono hbl2.size)
  have hr3 := (hb13.block _ hl0).trans r0
  have hb03 := h1.trans (hb13.mono h1.size)
  have hw5 := wrt_row (c' := ab 32 R) hr3
  have hf5 := below_wrt hb03 hw5 (by omega) hb03.size
  replace hw5 := hw5.row
  clear htx hsh rA rB
  go_wp2_with (refine wpList_store_row rfl 34 (.tmp 4) (.tmp 8) rfl (W0.heap.size + 1 + 1) (ab 32 R) (ab 32 fun _ => 0) 34 rfl rfl (sum_sz R) hr3 (by rw [ab_size, ab_size]) (ab_one _ _) rfl ?_)
  exact bodyPost_ret (v := .agg (ab 32 R)) (results_row rfl _ rfl Tryd.underlying34 (sum_sz R) hw5) rfl ⟨rfl, hf5⟩
def SsAt (w : World) (a : Option Addr) (L : List (Nat → Nat)) : Prop := (∀ F ∈ L, ∀ j, F j < 256) ∧ (0 < L.length → ∃ b off, a = some ⟨b, off, none⟩ ∧ ∀ i (h : i < L.length) j, j < 32 → w.cell? ⟨b, off + 32 * i + j, none⟩ = some (.int .u8 ((L[i] j : Nat) : Int)))
theorem SsAt.later {w w' : World} {a : Option Addr} {L : List (Nat → Nat)} (h : SsAt w a L) (hb : Below w.heap.size w w') : SsAt w' a L :=
  ⟨h.1, fun hl => by
    obtain ⟨b, off, e, hc⟩ := h.2 hl
    exact ⟨b, off, e, fun i hi j hj => cell_later hb (hc i hi j hj)⟩⟩
theorem SsAt.lo {w : World} {b off k : Nat} {L : List (Nat → Nat)} (h : SsAt w (some ⟨b, off, none⟩) L) : SsAt w (some ⟨b, off, none⟩) (L.take k) := by
  refine ⟨fun F hF => h.1 F (List.mem_of_mem_take hF), fun hl => ?_⟩
  rw [List.length_take] at hl
  obtain ⟨b', off', e, hc⟩ := h.2 (by omega)
  cases e
  refine ⟨b, off, rfl, fun i hi j hj => ?_⟩
  rw [List.length_take] at hi
  rw [hc i (by omega) j hj, List.getElem_take]
theorem SsAt.hi {w : World} {b off k : Nat} {L : List (Nat → Nat)} (h : SsAt w (some ⟨b, off, none⟩) L) : SsAt w (some ⟨b, off + 32 * k, none⟩) (L.drop k) := by
  refine ⟨fun F hF => h.1 F (List.mem_of_mem_drop hF), fun hl => ?_⟩
  rw [List.length_drop] at hl
  obtain ⟨b', off', e, hc⟩ := h.2 (by omega)
  cases e
  refine ⟨b, off + 32 * k, rfl, fun i hi j hj => ?_⟩
  rw [List.length_drop] at hi
  rw [List.getElem_drop, ← hc (k + i) (by omega) j hj, show off + 32 * k + 32 * i + j = off + 32 * (k + i) + j by omega]
theorem sl_lo {b off n cap k : Nat} (hk : k ≤ n) (hc : n ≤ cap) (w : World) : (Instr.sliceAt 22 (.slice (some ⟨b, off, none⟩) n cap) none (some (.int .i64 ((k : Nat) : Int))) none).run Tryd.prog w = .ok (.slice (some ⟨b, off, none⟩) k cap) w := by
  have h1 : (k : Int) ≤ (cap : Int) := by omega
  simp [Instr.sliceAt, go_sem, h1]
theorem sl_hi {b off n cap k : Nat} (hk : k < n) (hc : n ≤ cap) (w : World) : (Instr.sliceAt 22 (.slice (some ⟨b, off, none⟩) n cap) (some (.int .i64 ((k : Nat) : Int))) none none).run Tryd.prog w = .ok (.slice (some ⟨b, off + 32 * k, none⟩) (n - k) (cap - k)) w := by
  have h1 : (k : Int) ≤ (n : Int) := by omega
  have h2 : ¬ cap = k := by omega
  simp [Instr.sliceAt, go_sem, h1, h2, Nat.mul_comm]
theorem ix_ss {b off n cap i : Nat} (hi : i < n) (w : World) : (Instr.indexAt 22 (.slice (some ⟨b, off, none⟩) n cap) (.int .i64 ((i : Nat) : Int))).run Tryd.prog w = .ok (.pointer (some ⟨b, off + 32 * i, none⟩)) w := by
  simp [Instr.indexAt, go_sem, hi, Nat.mul_comm]
theorem ab_list (F : Nat → Nat) : ab 32 F = ((List.range 32).map fun j => Value.int .u8 ((F j : Nat) : Int)).toArray := by
  apply Array.ext_getElem?
  intro i
  have e : ((List.range 32).map fun j => Value.int .u8 ((F j : Nat) : Int)).toArray[i]? = ((List.range 32)[i]?).map fun j => Value.int .u8 ((F j : Nat) : Int) := by simp
  rw [e]
  rcases Nat.lt_or_ge i 32 with h | h
  · rw [List.getElem?_range h]; exact arr_get _ _ _ h
  · rw [List.getElem?_eq_none (by simpa using h), Array.getElem?_eq_none (by rw [ab_size]; exact h)]; rfl
theorem ld_ss {w : World} {b off i : Nat} {L : List (Nat → Nat)} (h : SsAt w (some ⟨b, off, none⟩) L) (hi : i < L.length) : (Instr.loadAt 34 (.pointer (some ⟨b, off + 32 * i, none⟩))).run Tryd.prog w = .ok (.agg (ab 32 L[i])) w := by
  rw [ab_list]
  refine run_loadAt_mid w b _ 34 _ _ (fun j v hj => ?_) Tryd.underlying34 rfl (by rw [List.length_map, List.length_range]; kernel_rfl)
  obtain ⟨b', off', e, hc⟩ := h.2 (by omega)
  cases e
  rw [List.getElem?_map] at hj
  rcases Nat.lt_or_ge j 32 with h1 | h1
  · rw [List.getElem?_range h1, Option.map_some] at hj
    cases hj
    exact hc i hi j h1
  · rw [List.getElem?_eq_none (by simpa using h1)] at hj; cases hj
/-- The digest of a row. -/
def root (l : List (Nat → Nat)) : Nat → Nat :=
  if _h : l.length < 2 then (match l with
    | [] => dg 0 (fun _ => 0)
    | x :: _ => x)
  else nd (root (l.take (cut l.length))) (root (l.drop (cut l.length)))
termination_by l.length
decreasing_by
  · have := cut_in (n := l.length) (by omega); rw [List.length_take]; omega
  · have := cut_in (n := l.length) (by omega); rw [List.length_drop]; omega
theorem root_0 : root [] = dg 0 (fun _ => 0) := by unfold root; rfl
theorem root_1 (x : Nat → Nat) : root [x] = x := by unfold root; rfl
theorem root_n {l : List (Nat → Nat)} (h : 2 ≤ l.length) : root l = nd (root (l.take (cut l.length))) (root (l.drop (cut l.length))) := by
  rw [root]
  rw [dif_neg (by omega)]
theorem root_lt : ∀ (n : Nat) (l : List (Nat → Nat)), l.length = n → (∀ F ∈ l, ∀ j, F j < 256) → ∀ j, root l j < 256
  | 0, [], _, _, j => by rw [root_0]; exact dg_lt _ _ _
  | 1, [x], _, h, j => by rw [root_1]; exact h x (by simp) j
  | n + 2, l, hn, _, j => by rw [root_n (by omega)]; exact dg_lt _ _ _
theorem cut_k (n : Nat) (hn : n ≤ 1000000) (w : World) : Calls Tryd.prog 61 #[.int .i64 ((n : Nat) : Int)] w fun e w' => e = .returned (.int .i64 ((cut n : Nat) : Int)) ∧ Below w.heap.size w w' :=
  (cut_d ((n : Nat) : Int) (by omega) w).mono fun e w' h => ⟨by rw [h.1, Int.toNat_natCast], by rw [h.2]; exact Below.refl _ _⟩
theorem cut_kr (n : Nat) (hn : n ≤ 1000000) (w : World) : Calls Tryd.prog 43 #[.int .i64 ((n : Nat) : Int)] w fun e w' => e = .returned (.int .i64 ((cut n : Nat) : Int)) ∧ Below w.heap.size w w' :=
  (cut_r ((n : Nat) : Int) (by omega) w).mono fun e w' h => ⟨by rw [h.1, Int.toNat_natCast], by rw [h.2]; exact Below.refl _ _⟩
theorem len_ss {ad : Option Addr} {n c : Nat} (ty : TypeId) (w : World) : (Builtin.len_ #[22] ty #[.slice ad n c]).run Tryd.prog w = .ok (.int .i64 ((n : Nat) : Int)) w := by
  simp [Builtin.len_, go_sem]
section
variable {P : Program} {W : Wd} {ops : Array Oper} {s0 s1 : List SV} {z : List Blk} {y : List (Array Value)} {o : Oper}
/-- A part of what came in. -/
theorem k_sw {t : TypeId} {x : Operand} {d : Tmp} {lo hi : Option Operand} (x1 v : Value) (l1 h1 : Option Value) (hr : ∀ w, (Instr.sliceAt t x1 l1 h1 none).run P w = .ok v w) (ho : o.op = .slice t x lo hi none) (hd : o.dst = some d)
    (hw : wantF ops s1 o = true := by kernel_rfl) (hpx : plainB s1 x = true := by kernel_rfl) (hx1 : evS s1 x = x1 := by kernel_rfl) (hpl : lo.all (plainB s1) = true := by kernel_rfl) (hl : lo.map (evS s1) = l1 := by kernel_rfl) (hph : hi.all (plainB s1) = true := by kernel_rfl) (hh : hi.map (evS s1) = h1 := by kernel_rfl) (hs : slot s1 d = .inl v := by kernel_rfl) : Ok1 P W ops s0 s1 z y o ⟨none, none, none, false⟩ := by
  refine ok_val hw hd hs (fun β a w ha => ?_)
  have e1 : a.eval x = x1 := by rw [← hx1]; exact ev_plain ha (by rw [ho]; simp [Op.operands]) hpx
  have e2 : lo.map a.eval = l1 := by
    rw [← hl]
    cases lo with
    | none => rfl
    | some y => simp only [Option.map_some]; rw [ev_plain ha (by rw [ho]; simp [Op.operands]) (by simpa using hpl)]
  have e3 : hi.map a.eval = h1 := by
    rw [← hh]
    cases hi with
    | none => rfl
    | some y => simp only [Option.map_some]; rw [ev_plain ha (by rw [ho]; cases lo <;> simp [Op.operands]) (by simpa using hph)]
  simp only [execOp, ho, e1, e2, e3, Option.map_none, Sem.run_bind, hr w, Result.andThen_ok, Sem.run_pure]
end
end Go.Proofs.YtgnmnoadfjdjdaaDoor

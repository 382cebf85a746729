/- POc, POd: laid together. -/
import Derived.Test.YtgnmnoadfjdjdaaDoorG9
namespace Go.Proofs.YtgnmnoadfjdjdaaDoor
open Go.RowKit Go.Maps Sh
def FO (B b off n cap m : Nat) (T1 T2 T3 : List (Nat → Nat)) (tv : Value) : (Nat → Bool) → Nat → Value → World → Prop
  | _, 0, v, _ => v = tv
  | _, 1, v, _ => v = .slice (some ⟨b, off, none⟩) n cap
  | D, 2, v, w => D 3 = false → TsU B T2 v w
  | D, 3, v, w => D 3 = true ∧ (D 8 = false → TsV B (T1 ++ T2) v w)
  | _, 4, v, _ => v = .slice (some ⟨b, off, none⟩) n cap
  | _, 5, v, _ => v = .int .i64 ((m : Nat) : Int)
  | _, 6, v, _ => v = .slice (some ⟨b, off, none⟩) m cap
  | D, 7, v, w => D 3 = true ∧ (D 8 = false → TsU B T3 v w)
  | D, 8, v, w => D 3 = true ∧ D 8 = true ∧ (D 9 = false → TsV B (T1 ++ T2 ++ T3) v w)
  | _, 9, v, _ => v = .bool true
  | _, 10, v, _ => v = .bool true
  | _, _, _, _ => True
def FOd : Nat → Nat
  | 0 => 64
  | 1 => 65
  | 2 => 66
  | 3 => 67
  | 4 => 68
  | 5 => 69
  | 6 => 70
  | 7 => 71
  | 8 => 72
  | 9 => 73
  | 10 => 8
  | i => 2000 + i
theorem FO_mono (B b off n cap m : Nat) (T1 T2 T3 : List (Nat → Nat)) (tv : Value) {D : Nat → Bool} {ix : Nat} {w w' : World} (hD : D ix = false) (h8 : ix = 8 → D 3 = true) (h9 : ix = 9 → D 3 = true ∧ D 8 = true) (hb : ix ≠ 3 → ix ≠ 8 → ix ≠ 9 → Gx w w') : ∀ (j : Nat) (u : Value), j ≠ ix → FO B b off n cap m T1 T2 T3 tv D j u w → FO B b off n cap m T1 T2 T3 tv (add1 D ix) j u w'
  | 0, _, _, h => h
  | 1, _, _, h => h
  | 2, _, _, h => fun hd => by
    by_cases e3 : ix = 3
    · subst e3; rw [add1_eq] at hd; cases hd
    · rw [add1_ne (Ne.symm e3)] at hd
      exact (h hd).later (hb e3 (fun e => by rw [h8 e] at hd; cases hd) (fun e => by rw [(h9 e).1] at hd; cases hd))
  | 3, _, _, h => by
    have e3 : ix ≠ 3 := fun e => by rw [e] at hD; rw [h.1] at hD; cases hD
    refine ⟨by rw [add1_ne (Ne.symm e3)]; exact h.1, fun hd => ?_⟩
    by_cases e8 : ix = 8
    · subst e8; rw [add1_eq] at hd; cases hd
    · rw [add1_ne (Ne.symm e8)] at hd
      exact (h.2 hd).later (hb e3 e8 (fun e => by rw [(h9 e).2] at hd; cases hd))
  | 4, _, _, h => h
  | 5, _, _, h => h
  | 6, _, _, h => h
  | 7, _, _, h => by
    have e3 : ix ≠ 3 := fun e => by rw [e] at hD; rw [h.1] at hD; cases hD
    refine ⟨by rw [add1_ne (Ne.symm e3)]; exact h.1, fun hd => ?_⟩
    by_cases e8 : ix = 8
    · subst e8; rw [add1_eq] at hd; cases hd
    · rw [add1_ne (Ne.symm e8)] at hd
      exact (h.2 hd).later (hb e3 e8 (fun e => by rw [(h9 e).2] at hd; cases hd))
  | 8, _, _, h => by
    have e3 : ix ≠ 3 := fun e => by rw [e] at hD; rw [h.1] at hD; cases hD
    have e8 : ix ≠ 8 := fun e => by rw [e] at hD; rw [h.2.1] at hD; cases hD
    refine ⟨by rw [add1_ne (Ne.symm e3)]; exact h.1, by rw [add1_ne (Ne.symm e8)]; exact h.2.1, fun hd => ?_⟩
    by_cases e9 : ix = 9
    · subst e9; rw [add1_eq] at hd; cases hd
    · rw [add1_ne (Ne.symm e9)] at hd
      exact (h.2.2 hd).later (hb e3 e8 e9)
  | 9, _, _, h => h
  | 10, _, _, h => h
  | _ + 11, _, _, _ => trivial
set_option maxHeartbeats 16000000 in
set_option maxRecDepth 100000 in
theorem old_7 {b off n cap m q pcap : Nat} {pa : Option Addr} {O RT RM C1 C2 : Nat → Nat} {T1 T2 T3 : List (Nat → Nat)} {W0 : World} (hg : Gl W0) (h1 : n ≤ 100) (h2 : q ≤ 100) (hm1 : 1 ≤ m) (hmn : m ≤ n) (hcap : n ≤ cap) (hb : eqD O RM = false) (hrt : ∀ w, KW (wd W0) w → Calls Tryd.prog 15 #[.slice (some ⟨b, off, none⟩) n cap] w fun e w' => e = .returned (.agg (ab 32 RT)) ∧ Below w.heap.size w w') (hrm : ∀ w, KW (wd W0) w → Calls Tryd.prog 15 #[.slice (some ⟨b, off, none⟩) m cap] w fun e w' => e = .returned (.agg (ab 32 RM)) ∧ Below w.heap.size w w') (hex : ∀ w, KW (wd W0) w → Calls Tryd.prog 14 #[.int .i64 ((m : Nat) : Int), .int .i64 ((n : Nat) : Int), .agg (ab 32 O), .agg (ab 32 RT), .slice pa q pcap] w fun e w' => e = .returned (.bool true) ∧ Below w.heap.size w w') 
    (hne : ∀ w, Calls Tryd.prog 45 #[.int .i64 ((m : Nat) : Int), .int .i64 ((n : Nat) : Int), .bool true] w fun e w' => e = .returned (.int .i64 ((q : Nat) : Int)) ∧ Below w.heap.size w w')
    (hbo : ∀ w, Below W0.heap.size W0 w → Calls Tryd.prog 46 #[.int .i64 ((m : Nat) : Int), .int .i64 ((n : Nat) : Int), .bool true, .agg (ab 32 O), .slice pa q pcap] w fun e w' => ∃ tv, e = .returned (.tuple #[.agg (ab 32 C1), .agg (ab 32 C2), tv]) ∧ TsV w.heap.size T1 tv w' ∧ Below w.heap.size w w')
    (htx2 : ∀ w, Below W0.heap.size W0 w → Calls Tryd.prog 48 #[.slice (some ⟨b, off, none⟩) n cap] w fun e w' => ∃ r, e = .returned r ∧ TsU W0.heap.size T2 r w' ∧ Below w.heap.size w w')
    (htx3 : ∀ w, Below W0.heap.size W0 w → Calls Tryd.prog 48 #[.slice (some ⟨b, off, none⟩) m cap] w fun e w' => ∃ r, e = .returned r ∧ TsU W0.heap.size T3 r w' ∧ Below w.heap.size w w')
    (hT1 : T1.length ≤ 200) (hT2 : T2.length ≤ 100) (hT3 : T3.length ≤ 100) (hT0 : 0 < T1.length) (hTg : ∀ i j, ((T1 ++ T2 ++ T3).getD i fun _ => 0) j < 256) (hcx : ∃ i j, i < (T1 ++ T2 ++ T3).length ∧ j < (T1 ++ T2 ++ T3).length ∧ Clash ((T1 ++ T2 ++ T3).getD i fun _ => 0) ((T1 ++ T2 ++ T3).getD j fun _ => 0)) : Calls Tryd.prog 17 #[.slice (some ⟨b, off, none⟩) n cap, .int .i64 ((m : Nat) : Int), .agg (ab 32 O), .slice pa q pcap] W0 fun e w' => e = .returned (.bool true) ∧ Below W0.heap.size W0 w' := by
  refine s_in Tryd.func17 Tryd.ntmps17 rfl [.inl (.slice (some ⟨b, off, none⟩) n cap), .inl (.int .i64 ((m : Nat) : Int)), .inl (.agg (ab 32 O)), .inl (.slice pa q pcap)] ?_
  intro β a h
  refine sym_seq ?_
  refine St.rg h [(6, .inr (0, pt 0)), (8, .inl (.bool false))] [(ab 32 O, 34)] [] [eN 0] ?_ ?_
  · exact oc (k_bx 0 (.agg (ab 32 O)) (bx_agg (P := Tryd.prog)) rfl rfl) <|
    oz (k_mv (.inr rfl) rfl) <|
    ok_nil
  clear h; intro β a w h
  refine sym_then ?_
  refine sym_seq ?_
  refine sym_seq ?_
  refine St.r0 h [(13, .inl (.bool true)), (14, .inl (.bool false))] [] ?_ ?_
  · exact oz (k_cw 9 #[] (.bool true) (fun w hw => alive_t (gl_b hg hw.below)) rfl rfl) <|
    oz (k_nt true rfl rfl) <|
    ok_nil
  clear h; intro β a w h
  refine sym_then ?_
  refine s_cf h ?_
  refine wp_skip ?_
  refine sym_then ?_
  refine sym_seq ?_
  refine St.r0 h [(15, .inl (.slice (some ⟨b, off, none⟩) n cap)), (16, .inl (.int .i64 ((n : Nat) : Int))), (9, .inl (.int .i64 ((n : Nat) : Int)))] [] ?_ ?_
  · exact oz (k_mv (.inl rfl) rfl) <|
    oz (k_ln (ad := (some ⟨b, off, none⟩)) n cap rfl rfl (fun w => len_ss _ w)) <|
    oz (k_mv (.inr rfl) rfl) <|
    ok_nil
  clear h; intro β a w h
  refine sym_then ?_
  refine sym_seq ?_
  refine sym_seq ?_
  refine St.r0 h [(17, .inl (.int .i64 ((n : Nat) : Int))), (18, .inl (.bool false)), (19, .inl (.bool false)), (20, .inl (.slice pa q pcap)), (21, .inl (.int .i64 ((q : Nat) : Int))), (22, .inl (.bool false)), (23, .inl (.bool false)), (24, .inl (.bool false)), (25, .inl (.int .i64 ((m : Nat) : Int))), (26, .inl (.bool false)), (27, .inl (.bool false)), (28, .inl (.bool false)), (29, .inl (.int .i64 ((m : Nat) : Int))), (30, .inl (.int .i64 ((n : Nat) : Int))), (31, .inl (.bool false)), (32, .inl (.bool false))] [] ?_ ?_
  · exact oz (k_mv (.inl rfl) rfl) <|
    oz (k_bi (.int .i64 ((n : Nat) : Int)) (.int .i64 ((100 : Nat) : Int)) (.bool false) (gt_s (m := ((n : Nat) : Int)) (n := ((100 : Nat) : Int)) (decide_eq_false (by omega))) rfl rfl) <|
    oz (k_mv (.inl rfl) rfl) <|
    oz (k_mv (.inl rfl) rfl) <|
    oz (k_ln (ad := pa) q pcap rfl rfl (fun w => len_ss _ w)) <|
    oz (k_bi (.int .i64 ((q : Nat) : Int)) (.int .i64 ((100 : Nat) : Int)) (.bool false) (gt_s (m := ((q : Nat) : Int)) (n := ((100 : Nat) : Int)) (decide_eq_false (by omega))) rfl rfl) <|
    oz (k_pf rfl rfl) <|
    oz (k_mv (.inl rfl) rfl) <|
    oz (k_mv (.inl rfl) rfl) <|
    oz (k_bi (.int .i64 ((m : Nat) : Int)) (.int .i64 ((1 : Nat) : Int)) (.bool false) (lt_i (m := ((m : Nat) : Int)) (n := ((1 : Nat) : Int)) (decide_eq_false (by omega))) rfl rfl) <|
    oz (k_pf rfl rfl) <|
    oz (k_mv (.inl rfl) rfl) <|
    oz (k_mv (.inl rfl) rfl) <|
    oz (k_mv (.inl rfl) rfl) <|
    oz (k_bi (.int .i64 ((m : Nat) : Int)) (.int .i64 ((n : Nat) : Int)) (.bool false) (gt_s (m := ((m : Nat) : Int)) (n := ((n : Nat) : Int)) (decide_eq_false (by omega))) rfl rfl) <|
    oz (k_pf rfl rfl) <|
    ok_nil
  clear h; intro β a w h
  refine sym_then ?_
  refine s_cf h ?_
  refine wp_skip ?_
  refine sym_then ?_
  refine sym_seq ?_
  refine sym_seq ?_
  refine St.r0 h [(33, .inl (.int .i64 ((m : Nat) : Int))), (34, .inl (.int .i64 ((n : Nat) : Int))), (35, .inl (.agg (ab 32 O))), (36, .inl (.slice (some ⟨b, off, none⟩) n cap)), (37, .inl (.agg (ab 32 RT))), (38, .inl (.slice pa q pcap)), (39, .inl (.bool true)), (40, .inl (.bool false)), (41, .inl (.bool false)), (42, .inl (.agg (ab 32 O))), (43, .inl (.slice (some ⟨b, off, none⟩) n cap)), (44, .inl (.int .i64 ((m : Nat) : Int))), (45, .inl (.slice (some ⟨b, off, none⟩) m cap)), (46, .inl (.agg (ab 32 RM))), (47, .inl (.bool false)), (48, .inl (.bool false))] [nn, nn, eR 0, nn, nn, nn, nn, nn, nn, eR 0] ?_ ?_
  · exact oc (k_mv (.inl rfl) rfl) <|
    oc (k_mv (.inl rfl) rfl) <|
    oc (k_ld 0 0 (.agg (ab 32 O)) (c := ab 32 O) (ldS (F := O) 34) rfl rfl) <|
    oc (k_mv (.inl rfl) rfl) <|
    oc (k_cw 15 #[.slice (some ⟨b, off, none⟩) n cap] (.agg (ab 32 RT)) (fun w hw => hrt w hw) rfl rfl) <|
    oc (k_mv (.inl rfl) rfl) <|
    oc (k_cw 14 #[.int .i64 ((m : Nat) : Int), .int .i64 ((n : Nat) : Int), .agg (ab 32 O), .agg (ab 32 RT), .slice pa q pcap] (.bool true) (fun w hw => hex w hw) rfl rfl) <|
    oc (k_nt true rfl rfl) <|
    oc (k_mv (.inl rfl) rfl) <|
    oc (k_ld 0 0 (.agg (ab 32 O)) (c := ab 32 O) (ldS (F := O) 34) rfl rfl) <|
    oz (k_mv (.inl rfl) rfl) <|
    oz (k_mv (.inl rfl) rfl) <|
    oz (k_sw (.slice (some ⟨b, off, none⟩) n cap) (.slice (some ⟨b, off, none⟩) m cap) none (some (.int .i64 ((m : Nat) : Int))) (sl_lo (by omega) hcap) rfl rfl) <|
    oz (k_cw 15 #[.slice (some ⟨b, off, none⟩) m cap] (.agg (ab 32 RM)) (fun w hw => hrm w hw) rfl rfl) <|
    oz (k_bi (.agg (ab 32 O)) (.agg (ab 32 RM)) (.bool false) (eqS_v hb) rfl rfl) <|
    oz (k_pf rfl rfl) <|
    ok_nil
  clear h; intro β a w h
  refine sym_then ?_
  refine s_cf h ?_
  refine wp_skip ?_
  refine sym_then ?_
  refine sym_seq ?_
  refine sym_seq ?_
  refine St.r0 h [(49, .inl (.slice pa q pcap)), (50, .inl (.int .i64 ((q : Nat) : Int))), (51, .inl (.int .i64 ((m : Nat) : Int))), (52, .inl (.int .i64 ((n : Nat) : Int))), (53, .inl (.int .i64 ((q : Nat) : Int))), (54, .inl (.bool false))] [] ?_ ?_
  · exact oz (k_mv (.inl rfl) rfl) <|
    oz (k_ln (ad := pa) q pcap rfl rfl (fun w => len_ss _ w)) <|
    oz (k_mv (.inl rfl) rfl) <|
    oz (k_mv (.inl rfl) rfl) <|
    oz (k_ca 45 #[.int .i64 ((m : Nat) : Int), .int .i64 ((n : Nat) : Int), .bool true] (.int .i64 ((q : Nat) : Int)) (fun w => hne w) rfl rfl) <|
    oz (k_bi (.int .i64 ((q : Nat) : Int)) (.int .i64 ((q : Nat) : Int)) (.bool false) (ne_i (m := ((q : Nat) : Int)) (n := ((q : Nat) : Int)) (decide_eq_false (by omega))) rfl rfl) <|
    ok_nil
  clear h; intro β a w h
  refine sym_then ?_
  refine s_cf h ?_
  refine wp_skip ?_
  refine sym_then ?_
  refine sym_seq ?_
  have hr6 := h.row 0 _ rfl
  have hb0 := KW.below h.bel
  obtain rfl : a = { tmps := #[.slice (some ⟨b, off, none⟩) n cap, .int .i64 ((m : Nat) : Int), .agg (ab 32 O), .slice pa q pcap, undef, undef, fv (pt 0) (β 0), undef, .bool false, .int .i64 ((n : Nat) : Int), undef, undef, undef, .bool true, .bool false, .slice (some ⟨b, off, none⟩) n cap, .int .i64 ((n : Nat) : Int), .int .i64 ((n : Nat) : Int), .bool false, .bool false, .slice pa q pcap, .int .i64 ((q : Nat) : Int), .bool false, .bool false, .bool false, .int .i64 ((m : Nat) : Int), .bool false, .bool false, .bool false, .int .i64 ((m : Nat) : Int)] ++ (#[.int .i64 ((n : Nat) : Int), .bool false, .bool false, .int .i64 ((m : Nat) : Int), .int .i64 ((n : Nat) : Int), .agg (ab 32 O), .slice (some ⟨b, off, none⟩) n cap, .agg (ab 32 RT), .slice pa q pcap, .bool true, .bool false, .bool false, .agg (ab 32 O), .slice (some ⟨b, off, none⟩) n cap, .int .i64 ((m : Nat) : Int), .slice (some ⟨b, off, none⟩) m cap, .agg (ab 32 RM), .bool false, .bool false, .slice pa q pcap, .int .i64 ((q : Nat) : Int), .int .i64 ((m : Nat) : Int), .int .i64 ((n : Nat) : Int), .int .i64 ((q : Nat) : Int), .bool false, undef, undef, undef, undef, undef] ++ #[undef, undef, undef, undef, undef, undef, undef, undef, undef, undef, undef, undef, undef, undef]), defers := [] } := h.tm.trans (by kernel_rfl)
  clear h
  simp only [List.append_toArray, List.cons_append, List.nil_append]
  generalize β 0 = gq at *
  obtain ⟨Z, hZ⟩ : ∃ Z, Hid (Z = ab 32 fun _ => 0) := ⟨_, hide1 rfl⟩
  have hzs : ∀ w : World, (zeroValue 34).run Tryd.prog w = .ok (.agg Z) w := fun w => by rw [hZ.out]; kernel_rfl
  have hZs : Z.size = 32 := by rw [hZ.out]; exact ab_size _ _
  go_wp2_with (refine wpList_load_row rfl 34 (.tmp 6) rfl gq (ab 32 O) 34 rfl Tryd.underlying34 (sum_sz O) hr6 ?_)
  refine (hbo w hb0).mono ?_
  rintro e w3 ⟨tv, rfl, hts, hb3⟩
  have hb03 := blw hb0 hb3
  obtain ⟨w4, hw4⟩ : ∃ w4, Hid (w4 = (((w3.alloc (.cells Z 34)).alloc (.cells Z 34)).setRow w3.heap.size (ab 32 C1)).setRow (w3.heap.size + 1) (ab 32 C2)) := ⟨_, hide1 rfl⟩
  have hn1 : (((w3.alloc (.cells Z 34)).alloc (.cells Z 34))).heap[w3.heap.size]? = some (.cells Z 34 (0, 0)) := (Below.heap_alloc _ _ _ (by simp)).trans (World.alloc_heap_new w3 _)
  have hn2 : (((w3.alloc (.cells Z 34)).alloc (.cells Z 34))).heap[w3.heap.size + 1]? = some (.cells Z 34 (0, 0)) := by
    have := World.alloc_heap_new (w3.alloc (.cells Z 34)) (.cells Z 34); rwa [World.size_alloc] at this
  have hwr1 := wrt_row (c' := ab 32 C1) hn1
  have hn3 := (setRow_other _ w3.heap.size (w3.heap.size + 1) (ab 32 C1) (by omega)).trans hn2
  have hwr2 := wrt_row (c' := ab 32 C2) hn3
  have hbz : Below w3.heap.size w3 (((w3.alloc (.cells Z 34)).alloc (.cells Z 34))) := ((Below.refl _ _).alloc (Nat.le_refl _) _).alloc (by simp) _
  have hbz1 := below_wrt hbz hwr1 (Nat.le_refl _) hbz.size
  have hbw4 : Below w3.heap.size w3 w4 := by rw [hw4.out]; exact below_wrt hbz1 hwr2 (by omega) hbz1.size
  have hC1 : w4.heap[w3.heap.size]? = some (.cells (ab 32 C1) 34 (0, 0)) := by rw [hw4.out]; exact (setRow_other _ (w3.heap.size + 1) w3.heap.size _ (by omega)).trans hwr1.row
  have hC2 : w4.heap[w3.heap.size + 1]? = some (.cells (ab 32 C2) 34 (0, 0)) := by rw [hw4.out]; exact hwr2.row
  have hts4 := hts.later (Gx.of hbw4)
  have hb04 := blw hb03 hbw4
  clear hwr1 hwr2 hbz hbz1 hts hbo hr6 hrt hrm hex hne hb3
  go_upto_region 11 with (first
    | (refine wpList_store_row rfl 34 (.tmp 10) (.tmp 61) rfl w3.heap.size (ab 32 C1) Z 34 rfl rfl (sum_sz C1) hn1 (by rw [hZs, ab_size]) (ab_one _ _) rfl ?_)
    | (refine wpList_store_row rfl 34 (.tmp 11) (.tmp 62) rfl (w3.heap.size + 1) (ab 32 C2) Z 34 rfl rfl (sum_sz C2) hn3 (by rw [hZs, ab_size]) (ab_one _ _) rfl ?_; rw [← hw4.out])
    | fail)
  clear hn1 hn2 hn3 hC1 hC2 hzs
  replace hts4 := hts4.weak hb0.size
  refine wp_rel3 _ _ (FO W0.heap.size b off n cap m T1 T2 T3 tv) (MO W0 T1 tv) FOd (by kernel_rfl) (by kernel_rfl) 11 (by kernel_rfl) ?_ ?_ rfl (⟨hb04.drew, fun _ => hts4.later (Gx.of (Below.refl _ _).drew)⟩) ?_ ?_
  · intro ix o ho
    match ix, ho with
    | 0, ho => obtain rfl := Option.some.inj ho; exact .inl ⟨rfl, by show 64 < 74; decide⟩
    | 1, ho => obtain rfl := Option.some.inj ho; exact .inl ⟨rfl, by show 65 < 74; decide⟩
    | 2, ho => obtain rfl := Option.some.inj ho; exact .inl ⟨rfl, by show 66 < 74; decide⟩
    | 3, ho => obtain rfl := Option.some.inj ho; exact .inl ⟨rfl, by show 67 < 74; decide⟩
    | 4, ho => obtain rfl := Option.some.inj ho; exact .inl ⟨rfl, by show 68 < 74; decide⟩
    | 5, ho => obtain rfl := Option.some.inj ho; exact .inl ⟨rfl, by show 69 < 74; decide⟩
    | 6, ho => obtain rfl := Option.some.inj ho; exact .inl ⟨rfl, by show 70 < 74; decide⟩
    | 7, ho => obtain rfl := Option.some.inj ho; exact .inl ⟨rfl, by show 71 < 74; decide⟩
    | 8, ho => obtain rfl := Option.some.inj ho; exact .inl ⟨rfl, by show 72 < 74; decide⟩
    | 9, ho => obtain rfl := Option.some.inj ho; exact .inl ⟨rfl, by show 73 < 74; decide⟩
    | 10, ho => obtain rfl := Option.some.inj ho; exact .inl ⟨rfl, by show 8 < 74; decide⟩
    | _ + 11, ho => exact absurd ho (by simp)
  · intro ix jx hi hj e; unfold FOd at e; split at e <;> split at e <;> omega
  · intro ix o ho
    match ix, ho with
    | 0, ho =>
      obtain rfl := Option.some.inj ho
      intro D a w hM hsl hdep hDi hcl K hK
      have hp12 : a.tmps.getD 12 undef = tv := hsl 12 (by intro j hj; unfold FOd; split <;> omega)
      refine ⟨rfl, ?_⟩
      refine wp_val (w' := w) (v := tv) (by simp only [execOp, Act.eval]; rw [show a.tmps.getD 12 undef = _ from hp12]; rfl) ?_
      exact hK _ _ rfl (hM.step (Below.refl _ _) (by decide)) (FO_mono W0.heap.size b off n cap m T1 T2 T3 tv hDi (fun h => absurd h (by decide)) (fun h => absurd h (by decide)) (fun _ _ _ => (Gx.of (Below.refl _ _))))
    | 1, ho =>
      obtain rfl := Option.some.inj ho
      intro D a w hM hsl hdep hDi hcl K hK
      have hp0 : a.tmps.getD 0 undef = .slice (some ⟨b, off, none⟩) n cap := hsl 0 (by intro j hj; unfold FOd; split <;> omega)
      refine ⟨rfl, ?_⟩
      refine wp_val (w' := w) (v := .slice (some ⟨b, off, none⟩) n cap) (by simp only [execOp, Act.eval]; rw [show a.tmps.getD 0 undef = _ from hp0]; rfl) ?_
      exact hK _ _ rfl (hM.step (Below.refl _ _) (by decide)) (FO_mono W0.heap.size b off n cap m T1 T2 T3 tv hDi (fun h => absurd h (by decide)) (fun h => absurd h (by decide)) (fun _ _ _ => (Gx.of (Below.refl _ _))))
    | 2, ho =>
      obtain rfl := Option.some.inj ho
      intro D a w hM hsl hdep hDi hcl K hK
      have e1 := (hdep ⟨1, .data⟩ (by simp) rfl).1
      refine ⟨rfl, ?_⟩
      refine oper_any 48 #[.tmp 65] _ rfl #[.slice (some ⟨b, off, none⟩) n cap] (by simp only [List.map_toArray, List.map_cons, List.map_nil, Act.eval]; rw [show a.tmps.getD 65 undef = _ from e1]) (fun w => by kernel_rfl) (htx2 w hM.bel) fun r w' hj => ?_
      obtain ⟨hr, hb⟩ := hj
      exact hK _ _ (fun _ => hr) (hM.step hb (by decide)) (FO_mono W0.heap.size b off n cap m T1 T2 T3 tv hDi (fun h => absurd h (by decide)) (fun h => absurd h (by decide)) (fun _ _ _ => (Gx.of hb)))
    | 3, ho =>
      obtain rfl := Option.some.inj ho
      intro D a w hM hsl hdep hDi hcl K hK
      have e0 := (hdep ⟨0, .data⟩ (by simp) rfl).1
      have e2 := (hdep ⟨2, .data⟩ (by simp) rfl).1
      refine ⟨rfl, ?_⟩
      obtain ⟨h0, xs, ho, hx⟩ := hM.ts hDi
      obtain ⟨ys, hu, hy⟩ := e2 hDi
      obtain ⟨v', w', hrun, ho', hgr⟩ := run_append_sl w W0.heap.size 78 tv T1.length xs ho (a.tmps.getD 66 undef) T2.length ys hu hy.cells (by omega) h0
      refine wp_val (w' := w') (v := v') (by simp only [execOp, Act.eval, resolve, invoke, builtin, List.map_toArray, List.map_cons, List.map_nil, Sem.run_pure, Result.andThen_ok, Sem.run_bind]; rw [show a.tmps.getD 64 undef = _ from e0]; simp only [hrun, Result.andThen_ok]) ?_
      exact hK _ _ ⟨add1_eq, fun _ => ⟨Nat.le_trans h0 hgr.size, xs ++ ys, by rw [List.length_append]; exact ho', (hx.map (fun h => h.grown hgr (own_ty ho))).app (hy.map (fun h => h.grown hgr (own_ty ho)))⟩⟩ ⟨own_bel hM.bel ho hgr, fun hd => by rw [add1_eq] at hd; cases hd⟩ (FO_mono W0.heap.size b off n cap m T1 T2 T3 tv hDi (fun h => absurd h (by decide)) (fun h => absurd h (by decide)) (fun h => absurd rfl h))
    | 4, ho =>
      obtain rfl := Option.some.inj ho
      intro D a w hM hsl hdep hDi hcl K hK
      have hp0 : a.tmps.getD 0 undef = .slice (some ⟨b, off, none⟩) n cap := hsl 0 (by intro j hj; unfold FOd; split <;> omega)
      refine ⟨rfl, ?_⟩
      refine wp_val (w' := w) (v := .slice (some ⟨b, off, none⟩) n cap) (by simp only [execOp, Act.eval]; rw [show a.tmps.getD 0 undef = _ from hp0]; rfl) ?_
      exact hK _ _ rfl (hM.step (Below.refl _ _) (by decide)) (FO_mono W0.heap.size b off n cap m T1 T2 T3 tv hDi (fun h => absurd h (by decide)) (fun h => absurd h (by decide)) (fun _ _ _ => (Gx.of (Below.refl _ _))))
    | 5, ho =>
      obtain rfl := Option.some.inj ho
      intro D a w hM hsl hdep hDi hcl K hK
      have hp1 : a.tmps.getD 1 undef = .int .i64 ((m : Nat) : Int) := hsl 1 (by intro j hj; unfold FOd; split <;> omega)
      refine ⟨rfl, ?_⟩
      refine wp_val (w' := w) (v := .int .i64 ((m : Nat) : Int)) (by simp only [execOp, Act.eval]; rw [show a.tmps.getD 1 undef = _ from hp1]; rfl) ?_
      exact hK _ _ rfl (hM.step (Below.refl _ _) (by decide)) (FO_mono W0.heap.size b off n cap m T1 T2 T3 tv hDi (fun h => absurd h (by decide)) (fun h => absurd h (by decide)) (fun _ _ _ => (Gx.of (Below.refl _ _))))
    | 6, ho =>
      obtain rfl := Option.some.inj ho
      intro D a w hM hsl hdep hDi hcl K hK
      have e4 := (hdep ⟨4, .data⟩ (by simp) rfl).1
      have e5 := (hdep ⟨5, .data⟩ (by simp) rfl).1
      refine ⟨rfl, ?_⟩
      have hl := sl_lo (b := b) (off := off) (n := n) (cap := cap) (k := m) hmn hcap w
      refine wp_val (w' := w) (v := .slice (some ⟨b, off, none⟩) m cap) (by simp only [execOp, Act.eval, Option.map_some, Option.map_none]; rw [show a.tmps.getD 68 undef = _ from e4, show a.tmps.getD 69 undef = _ from e5]; simp only [Sem.run_bind, hl, Result.andThen_ok, Sem.run_pure]) ?_
      exact hK _ _ rfl (hM.step (Below.refl _ _) (by decide)) (FO_mono W0.heap.size b off n cap m T1 T2 T3 tv hDi (fun h => absurd h (by decide)) (fun h => absurd h (by decide)) (fun _ _ _ => (Gx.of (Below.refl _ _))))
    | 7, ho =>
      obtain rfl := Option.some.inj ho
      intro D a w hM hsl hdep hDi hcl K hK
      have e6 := (hdep ⟨6, .data⟩ (by simp) rfl).1
      have d3 := (hdep ⟨3, .chain⟩ (by simp) rfl).2
      refine ⟨rfl, ?_⟩
      refine oper_any 48 #[.tmp 70] _ rfl #[.slice (some ⟨b, off, none⟩) m cap] (by simp only [List.map_toArray, List.map_cons, List.map_nil, Act.eval]; rw [show a.tmps.getD 70 undef = _ from e6]) (fun w => by kernel_rfl) (htx3 w hM.bel) fun r w' hj => ?_
      obtain ⟨hr, hb⟩ := hj
      exact hK _ _ (⟨by rw [add1_ne (by decide)]; exact d3, fun _ => hr⟩) (hM.step hb (by decide)) (FO_mono W0.heap.size b off n cap m T1 T2 T3 tv hDi (fun h => absurd h (by decide)) (fun h => absurd h (by decide)) (fun _ _ _ => (Gx.of hb)))
    | 8, ho =>
      obtain rfl := Option.some.inj ho
      intro D a w hM hsl hdep hDi hcl K hK
      have e3 := (hdep ⟨3, .data⟩ (by simp) rfl).1
      have e7 := (hdep ⟨7, .data⟩ (by simp) rfl).1
      refine ⟨rfl, ?_⟩
      obtain ⟨d3, h3⟩ := e3
      obtain ⟨h0, xs, ho, hx⟩ := h3 hDi
      obtain ⟨ys, hu, hy⟩ := e7.2 hDi
      obtain ⟨v', w', hrun, ho', hgr⟩ := run_append_sl w W0.heap.size 78 (a.tmps.getD 67 undef) (T1 ++ T2).length xs ho (a.tmps.getD 71 undef) T3.length ys hu hy.cells (by rw [List.length_append]; omega) h0
      refine wp_val (w' := w') (v := v') (by simp only [execOp, Act.eval, resolve, invoke, builtin, List.map_toArray, List.map_cons, List.map_nil, Sem.run_pure, Result.andThen_ok, Sem.run_bind]; simp only [hrun, Result.andThen_ok]) ?_
      exact hK _ _ ⟨by rw [add1_ne (by decide)]; exact d3, add1_eq, fun _ => ⟨Nat.le_trans h0 hgr.size, xs ++ ys, by rw [List.length_append]; exact ho', (hx.map (fun h => h.grown hgr (own_ty ho))).app (hy.map (fun h => h.grown hgr (own_ty ho)))⟩⟩ ⟨own_bel hM.bel ho hgr, fun hd => by rw [add1_ne (by decide), d3] at hd; cases hd⟩ (FO_mono W0.heap.size b off n cap m T1 T2 T3 tv hDi (fun _ => d3) (fun h => absurd h (by decide)) (fun _ h => absurd rfl h))
    | 9, ho =>
      obtain rfl := Option.some.inj ho
      intro D a w hM hsl hdep hDi hcl K hK
      have e8 := (hdep ⟨8, .data⟩ (by simp) rfl).1
      refine ⟨rfl, ?_⟩
      obtain ⟨d3, d8, h8⟩ := e8
      obtain ⟨h0, zs, ho, hz⟩ := h8 hDi
      obtain ⟨g, c', eg⟩ : ∃ g c', a.tmps.getD 72 undef = .slice (some ⟨g, 0, none⟩) (T1 ++ T2 ++ T3).length c' := by rcases ho.2 with ⟨_, h⟩ | ⟨g, c', cur, e, _⟩; (exfalso; simp only [List.length_append] at h; omega); exact ⟨g, c', e⟩
      rw [show a.tmps.getD (FOd 8) undef = _ from eg] at ho
      refine oper_callg 47 #[.tmp 72] _ rfl #[.slice (some ⟨g, 0, none⟩) (T1 ++ T2 ++ T3).length c'] (by simp only [List.map_toArray, List.map_cons, List.map_nil, Act.eval]; rw [eg]) (fun w => by kernel_rfl) (clash_d (by simp only [List.length_append]; omega) (by simp only [List.length_append]; omega) hM.bel ho hz hTg hcx) fun w' hb => ?_
      exact hK _ _ rfl ⟨hb, fun hd => by rw [add1_ne (by decide), d3] at hd; cases hd⟩ (FO_mono W0.heap.size b off n cap m T1 T2 T3 tv hDi (fun h => absurd h (by decide)) (fun _ => ⟨d3, d8⟩) (fun _ _ h => absurd rfl h))
    | 10, ho =>
      obtain rfl := Option.some.inj ho
      intro D a w hM hsl hdep hDi hcl K hK
      have e9 := (hdep ⟨9, .data⟩ (by simp) rfl).1
      refine ⟨rfl, ?_⟩
      refine wp_val (w' := w) (v := .bool true) (by simp only [execOp, Act.eval]; rw [show a.tmps.getD 73 undef = _ from e9]; rfl) ?_
      exact hK _ _ rfl (hM.step (Below.refl _ _) (by decide)) (FO_mono W0.heap.size b off n cap m T1 T2 T3 tv hDi (fun h => absurd h (by decide)) (fun h => absurd h (by decide)) (fun _ _ _ => (Gx.of (Below.refl _ _))))
    | _ + 11, ho => exact absurd ho (by simp)
  · intro D a u hall hd hs' hM hsl hr
    have hv : a.tmps.getD 8 undef = .bool true := hr 10 (by decide)
    refine (‹∀ (a : Act) (w : World), Code.wp Tryd.prog Code.ret _ a w → _›) a u ?_
    refine wp_ret ?_
    exact s_raw hd (by rw [hs']; show 8 < 74; decide) hv Tryd.results17 ⟨rfl, hM.bel⟩
end Go.Proofs.YtgnmnoadfjdjdaaDoor

namespace Go.Proofs.YtgnmnoadfjdjdaaDoor
open Go.RowKit Go.Maps Sh
theorem texts_u {n cap : Nat} {a : Option Addr} {L : List (Nat → Nat)} {W0 w : World} (hL : L.length = n) (hn : n ≤ 1000) (hs : SsAt w a L) (hc : n ≤ cap) (hw : Below W0.heap.size W0 w) : Calls Tryd.prog 48 #[.slice a n cap] w fun e w' => ∃ r, e = .returned r ∧ TsU W0.heap.size (texts L) r w' ∧ Below w.heap.size w w' :=
  (texts_r n L a cap w hL hn hs hc).mono fun _ _ ⟨r, h1, ys, h2, h3, h4⟩ => ⟨r, h1, ⟨ys, own_any h2, h3.map (fun h => h.mono hw.size)⟩, h4⟩
theorem first_walk {la pa : Option Addr} {n cap q pcap : Nat} {m : Int} {L ps : List (Nat → Nat)} {O : Nat → Nat} {W0 : World} (hO : ∀ i, O i < 256) (hL : L.length = n) (hs : SsAt W0 la L) (hcap : n ≤ cap) (hps : ps.length = q) (hp : SsAt W0 pa ps) (hpc : q ≤ pcap) (hg : Gl W0) : Calls Tryd.prog 17 #[.slice la n cap, .int .i64 m, .agg (ab 32 O), .slice pa q pcap] W0 fun e w' => e = .returned (.bool true) ∧ Below W0.heap.size W0 w' := by
  rcases Nat.lt_or_ge 100 n with h1 | h1
  · exact old_1 hg h1
  rcases Nat.lt_or_ge 100 q with h2 | h2
  · exact old_2 hg h1 h2
  by_cases h3 : m < 1
  · exact old_3 hg h1 h2 h3
  by_cases h4 : (n : Int) < m
  · exact old_4 hg h1 h2 (by omega) h4
  obtain ⟨k, rfl⟩ : ∃ k : Nat, m = (k : Int) := ⟨m.toNat, by omega⟩
  have hk1 : 1 ≤ k := by omega
  have hkn : k ≤ n := by omega
  obtain ⟨b, off, rfl, _⟩ := hs.2 (by omega)
  have hlk : (L.take k).length = k := by rw [List.length_take]; omega
  have hrt : ∀ w, KW (wd W0) w → Calls Tryd.prog 15 #[.slice (some ⟨b, off, none⟩) n cap] w fun e w' => e = .returned (.agg (ab 32 (root L))) ∧ Below w.heap.size w w' := fun w hw => root_r n L _ cap w hL (by omega) (hs.later hw.below) hcap
  have hrm : ∀ w, KW (wd W0) w → Calls Tryd.prog 15 #[.slice (some ⟨b, off, none⟩) k cap] w fun e w' => e = .returned (.agg (ab 32 (root (L.take k)))) ∧ Below w.heap.size w w' := fun w hw => root_r k (L.take k) _ cap w hlk (by omega) (hs.lo.later hw.below) (by omega)
  have hex := fun w (hw : KW (wd W0) w) => ext_d (pcap := pcap) (R := root L) (gl_b hg hw.below) hO hk1 hkn (by omega) hps hpc (hp.later hw.below)
  cases he : extN k n O (root L) ps with
  | false => rw [he] at hex; exact old_5 hg h1 h2 hk1 hkn hrt hex
  | true =>
    rw [he] at hex
    cases hb : eqD O (root (L.take k)) with
    | true => exact old_6 hg h1 h2 hk1 hkn hcap hb hrt hrm hex
    | false =>
      unfold extN at he
      rw [Bool.and_eq_true, Bool.and_eq_true, decide_eq_true_eq] at he
      obtain ⟨hl, he1, he2⟩ := he
      have hcl := old_clash n k L (Q0 true k n ps) (F0 true k n O ps) hL hk1 hkn (Q0_len hl) (eqD_iff.1 he2)
      rcases hcl with hcl | ⟨T, hT, U, hU, hcl⟩
      · exfalso
        have : eqD O (root (L.take k)) = true := eqD_iff.2 fun i hi => by
          rw [← eqD_iff.1 he1 i hi]
          exact hcl i hi
        rw [this] at hb; cases hb
      · have hlt := texts_len n L hL
        have hlt2 := texts_len k (L.take k) hlk
        have hl1 := txB_len (all := true) (m := k) (n := n) (old := O) (ps := ps)
        replace hT : T ∈ txB true k n O ps := hT
        refine old_7 (T1 := txB true k n O ps) (T2 := texts L) (T3 := texts (L.take k)) hg h1 h2 hk1 hkn hcap hb hrt hrm hex (fun w => by rw [← hps, hl]; exact (refNeeds_d n k true w hk1 hkn (by omega)).mono fun e w' h => ⟨h.1, by rw [h.2]; exact Below.refl _ _⟩)
          (fun w hw => refBoth_d n k ps q pa pcap true O w hk1 hkn (by omega) hps (by omega) (by omega) hpc hO (hp.later hw)) (fun w hw => texts_u hL (by omega) (hs.later hw) hcap hw) (fun w hw => texts_u hlk (by omega) (hs.lo.later hw) (by omega) hw) (by omega) (by omega) (by omega) (List.length_pos_of_mem hT) ?_ ?_
        · refine fun i j => getD_lt (fun P hP => ?_) i j
          rcases List.mem_append.1 hP with h | h
          · rcases List.mem_append.1 h with h | h
            · exact txB_lt hO hp.1 P h
            · exact texts_lt n L hL hs.1 P h
          · exact texts_lt k (L.take k) hlk (fun F hF => hs.1 F (List.mem_of_mem_take hF)) P h
        · rw [List.append_assoc]
          obtain ⟨i, hi', rfl⟩ := List.getElem_of_mem hT
          obtain ⟨j, hj', rfl⟩ := List.getElem_of_mem hU
          refine ⟨i, (txB true k n O ps).length + j, by rw [List.length_append]; omega, by rw [List.length_append]; omega, ?_⟩
          rw [List.getD_eq_getElem?_getD, List.getD_eq_getElem?_getD, List.getElem?_append_left hi', List.getElem?_append_right (by omega), Nat.add_sub_cancel_left, List.getElem?_eq_getElem hi', List.getElem?_eq_getElem hj']
          exact hcl
set_option maxHeartbeats 8000000 in
set_option maxRecDepth 100000 in
theorem old_walk {la pa : Option Addr} {n cap m pcap : Nat} {i : Int} {L ps : List (Nat → Nat)} {F : Nat → Nat} {W0 : World} (hF : ∀ i, F i < 256) (hL : L.length = n) (hs : SsAt W0 la L) (hcap : n ≤ cap) (hps : ps.length = m) (hp : SsAt W0 pa ps) (hpc : m ≤ pcap) (hg : Gl W0) : Calls Tryd.prog 5 #[.agg (onA la n cap i F pa m pcap)] W0 fun e w' => e = .returned (.bool true) ∧ Below W0.heap.size W0 w' := by
  obtain ⟨X, hX⟩ : ∃ X, Hid (X = onA la n cap i F pa m pcap) := ⟨_, hide1 rfl⟩
  rw [← hX.out]
  have bx : ∀ w : World, (Instr.box 41 (.agg X)).run Tryd.prog w = .ok (.pointer (some ⟨w.heap.size, 0, none⟩)) (w.alloc (.cells X 41)) := fun w => bx_agg w
  have hal : Below W0.heap.size W0 (W0.alloc (.cells X 41)) := (Below.refl _ _).alloc (Nat.le_refl _) _
  have hr := World.alloc_heap_new W0 (.cells X 41)
  have hcall := first_walk (m := i) (cap := cap) (pcap := pcap) hF hL (hs.later hal) hcap hps (hp.later hal) hpc (gl_b hg hal)
  obtain ⟨w1, hw1⟩ : ∃ w1, Hid (w1 = W0.alloc (.cells X 41)) := ⟨_, hide1 rfl⟩
  rw [← hw1.out] at hal hr hcall
  obtain ⟨c1, c2, c3⟩ := on_0 (la := la) (n := n) (cap := cap) (i := i) (F := F) (pa := pa) (m := m) (pcap := pcap)
  have k1 : w1.cell? ⟨W0.heap.size, 0, none⟩ = some (.slice la n cap) := by rw [cell_of_row _ _ _ _ _ _ hr, hX.out]; exact c1
  have k2 : w1.cell? ⟨W0.heap.size, 1, none⟩ = some (.int .i64 i) := by rw [cell_of_row _ _ _ _ _ _ hr, hX.out]; exact c2
  have k3 : w1.cell? ⟨W0.heap.size, 34, none⟩ = some (.slice pa m pcap) := by rw [cell_of_row _ _ _ _ _ _ hr, hX.out]; exact c3
  have l1 := ld_mid (F := F) (off := 2) hr (fun j hj => by rw [hX.out]; exact on_F hj)
  clear c1 c2 c3 hr hs hp hL hps
  go_enter Tryd.func5, Tryd.ntmps5
  go_upto_region 1 with fail
  rw [← hw1.out]
  go_wp2_with (refine wpList_ld rfl 34 (.tmp 7) rfl (.pointer (some ⟨W0.heap.size, 2, none⟩)) rfl l1 ?_)
  refine hcall.mono ?_
  rintro e w2 ⟨rfl, hb2⟩
  have hb02 := blw hal hb2
  go_wp2
  go_ret
  exact ⟨rfl, hb02⟩
end Go.Proofs.YtgnmnoadfjdjdaaDoor

/- J18: laid together. -/
import Derived.Sort.AtCall
import Derived.Test.YtfmjknknckjdiaaG1
namespace Go.Proofs.Ytfmjknknckjdiaa
open Go.RowKit Go.Shelf
attribute [local go_sem] Oper.semAt_some

set_option maxRecDepth 100000 in
set_option maxHeartbeats 4000000 in
theorem back_walk (a : Option Addr) (n cap : Nat) (ps : List (List Int)) (cut : Int) (w : World) (hp : Parts w a n ps) (hn : n ≤ maxLen) :
    Calls Try.prog 5 #[.slice a n cap, .int .i64 cut] w fun e w' => e = .returned (.bool true) ∧ Below w.heap.size w w' := by
  unfold maxLen at hn
  refine (callsIn_wide (n := 5)).1 (callsIn_of_wp_marks Try.func5 rfl trivial ?_ rfl)
  simp only [Try.ntmps5, List.size_toArray, List.length_cons, List.length_nil, Nat.reduceAdd, Nat.reduceSub, Array.replicate_succ, Array.replicate_zero, List.push_toArray, List.append_toArray, List.nil_append, List.cons_append]
  refine wpIn_wide.2 ?_
  go_wp2_with fail
  have hq0 := cell_alloc_l (.cells #[.bool false] 4) (cell_new_l w (.slice a n cap) 36).1
  have hr0 : ((w.alloc (.cells #[.slice a n cap] 36)).alloc (.cells #[.bool false] 4)).heap[w.heap.size + 1]? = some (.cells #[.bool false] 4 (0, 0)) := by
    have := World.alloc_heap_new (w.alloc (.cells #[.slice a n cap] 36)) (.cells #[.bool false] 4)
    rwa [World.size_alloc] at this
  have hB0 : Below w.heap.size w ((w.alloc (.cells #[.slice a n cap] 36)).alloc (.cells #[.bool false] 4)) := ((Below.refl _ w).alloc (Nat.le_refl _) _).alloc (by simp) _
  have hz0 : ((w.alloc (.cells #[.slice a n cap] 36)).alloc (.cells #[.bool false] 4)).heap.size = w.heap.size + 2 := by simp
  have HZ := hide1 hz0
  clear hz0
  generalize (w.alloc (.cells #[.slice a n cap] 36)).alloc (.cells #[.bool false] 4) = Wa at hq0 hr0 hB0 HZ ⊢
  refine (alive_d _).mono ?_
  rintro e w1 ⟨rfl, hb1⟩
  have hq1 := cell_later hb1 hq0
  have hr1 : w1.heap[w.heap.size + 1]? = some (.cells #[.bool false] 4 (0, 0)) := (hb1.block _ (by have := HZ.out; omega)).trans hr0
  have hB1 := bl2 hB0 hb1
  have hz1 : w.heap.size + 2 ≤ w1.heap.size := by have := HZ.out; have := hb1.size; omega
  have H1 := hide1 hz1
  clear hz1 hq0 hr0 hb1 HZ
  have hq2 := cell_alloc_l (.cells #[.slice (some ⟨w1.heap.size + 1, 0, none⟩) 1 1] 47) (cell_alloc_l (.cells #[.int .i64 0] 3) (cell_alloc_l (.cells #[] 5) hq1))
  have hbe : Below w1.heap.size w1 (((w1.alloc (.cells #[] 5)).alloc (.cells #[.int .i64 0] 3)).alloc (.cells #[.slice (some ⟨w1.heap.size + 1, 0, none⟩) 1 1] 47)) := (((Below.refl _ w1).alloc (Nat.le_refl _) _).alloc (by simp) _).alloc (by simp; omega) _
  have hrow0 := brow0 w1 ps
  have HQ := hide1 hq1
  clear hq1
  have hl := hp.1
  go_wp2_with fail
  generalize ((w1.alloc (.cells #[] 5)).alloc (.cells #[.int .i64 0] 3)).alloc (.cells #[.slice (some ⟨w1.heap.size + 1, 0, none⟩) 1 1] 47) = Wb at hq2 hbe hrow0 ⊢
  go_loopw [5, 21] (fun x i wr => ∃ k : Nat, k ≤ n ∧ k ≤ 21 ∧ i = .int .i64 k ∧ BRow w1.heap.size (w1.heap.size + 1 + 1) w1 ps k x wr) (fun _ i _ => n - (intOf i).toNat)
  case atStart => exact ⟨0, by omega, by omega, rfl, hrow0⟩
  case round =>
    obtain ⟨k, hk, hk21, rfl, hrow⟩ := hrel
    by_cases hlt : k < n
    · obtain ⟨b, off, rfl, hcell⟩ := hp.2 (by omega)
      obtain ⟨a', len, cap', hck, hm', hbs⟩ := hcell k hlt
      have hBr := bl2 hB1 hrow.2.1
      have hck' := cell_later hBr hck
      have hbs' := hbs.later hBr
      have hres : wr.heap[w.heap.size + 1]? = some (.cells #[.bool false] 4 (0, 0)) := (hrow.2.1.block _ (by have := H1.out; omega)).trans hr1
      obtain ⟨hrc, hrf⟩ := cell_of_box_l hres
      clear hcell hck hbs
      by_cases h10 : 20 < k
      · go_wp2
        exact ret_cb rfl (g := w.heap.size + 1) rfl (World.cell?_setCell_same' _ _ _ (by rw [hrc]; rfl)) ⟨rfl, hBr.setCell (p := ⟨w.heap.size + 1, 0, none⟩) (Nat.le_succ _) _⟩
      · by_cases h300 : 300 < len
        · go_wp2
          exact ret_cb rfl (g := w.heap.size + 1) rfl (World.cell?_setCell_same' _ _ _ (by rw [hrc]; rfl)) ⟨rfl, hBr.setCell (p := ⟨w.heap.size + 1, 0, none⟩) (Nat.le_succ _) _⟩
        · go_wp2_with fail
          refine (put_d _ len cap' _ _ hbs' (by omega)).mono ?_
          rintro e w2 ⟨v, rfl, hown, hb3⟩
          have el := hbs'.1
          obtain ⟨a2, cap2, rfl, hbs2, hle2, _⟩ := bs_owned hown (put_bytes hbs'.2.1)
          obtain ⟨hx, hbw, hs308, h4, ve, hE, hve⟩ := hrow
          have hsz : szs (ps.take k) + (8 + len) ≤ 140737488355328 := by omega
          have hbz := (hbw.trans (hb3.mono hbw.size)).size
          have hx2 := owns_later hx hb3
          have hve2 := owns_laterE hve hb3
          have hE2 := (hb3.block _ (Array.getElem?_eq_some_iff.1 hE).1).trans hE
          obtain ⟨i0, hi, hz0, hz1, hz2⟩ := info_parts info3
          clear hE hve hown
          go_wp2_with (at_builtin; refine wpList_append_bs rfl (.tmp 40) (.tmp 41) rfl w1.heap.size _ _ _ rfl hx2 _ _ _ _ rfl hbs2 hsz hbz ?_; intro v3 w3 hown3 hg3; refine stopAt ?_)
          refine hide1 ?_
          have hE3 := (hg3.block _ (Array.getElem?_eq_some_iff.1 hE2).1 (box_type hx2 hE2 (by decide))).trans hE2
          have hve3 := hve2.kept hg3 (own_type hve2 hx2 (by decide))
          have hb3s : w1.heap.size ≤ w3.heap.size := Nat.le_trans hbz hg3.size
          obtain ⟨hEc, hEf⟩ := cell_of_box_l hE3
          have hown3' := hown3
          obtain ⟨a3, c3, rfl, hbs3, _, _⟩ := bs_owned (zs := puts (ps.take k) ++ put (ps.getD k [])) (by rw [← byteVals_app]; exact hown3) ((puts_bytes (fun p hp' => parts_is hp p (List.mem_of_mem_take hp'))).app (put_bytes hbs'.2.1))
          clear hE2 hve2 hbs3 hown3
          go_wp2_with (at_builtin; refine wpList_append_own _ rfl (.tmp 43) (.tmp 46) 47 rfl w1.heap.size 3 i0 (.int .i64 0) 1 8 Try.underlying47 hi hz0 hz1 hz2 rfl (by decide) ve (k + 1) (endsL ps k) rfl (hve3.alloc _) ⟨w3.heap.size, 0, none⟩ 1 1 [_] rfl rfl (cell_one_new _ _ _) (by simp [Value.oneCell']) (by unfold maxLen; omega) (by omega) (by simp; omega) ?_; intro v5 w5 hown5 hg5 _; refine stopAt ?_)
          refine hide1 ?_
          have hE5 : w5.heap[w1.heap.size + 1 + 1]? = some (.cells #[ve] 47 (0, 0)) := by
            have hlt := (Array.getElem?_eq_some_iff.1 hE3).1
            have h6 := Below.heap_alloc w3 (.cells #[.int .i64 (((szs (ps.take k) : Nat) : Int) + (8 + (len : Int)))] 3) _ hlt
            rw [← hE3, ← h6]
            exact hg5.block _ (by simp; omega) (box_type hve3 hE3 (by decide))
          obtain ⟨hEc5, hEf5⟩ := cell_of_box_l hE5
          obtain ⟨g5, c5, rfl⟩ := ownsRow_succ hown5
          clear hEc hEf
          go_wp2_with fail
          go_roundw
          case rel => exact ⟨k + 1, by omega, by omega, by go_num, brow_next (Nat.le_refl _) (by omega) (by omega) hx hbw hs308 h4 hb3 (by omega) (by rw [el]; exact hown3') hg3 hE3 hve3 (by rw [el]; exact hown5) hg5⟩
          case measure => simp [intOf]; omega
    · obtain rfl : k = n := by omega
      clear hrow0 hq2
      obtain ⟨hx, hbw, hs308, h4, ve, hE, hve⟩ := hrow
      rw [List.take_of_length_le (by omega)] at hx hs308 h4
      have hBr := bl2 hB1 hbw
      have hq3 : wr.cell? ⟨w.heap.size, 0, none⟩ = some (.slice a k cap) := (hbw.cell (p := ⟨w.heap.size, 0, none⟩) (show w.heap.size < w1.heap.size by have := H1.out; omega)).trans HQ.out
      have hr3 : wr.heap[w.heap.size + 1]? = some (.cells #[.bool false] 4 (0, 0)) := (hbw.block _ (by have := H1.out; omega)).trans hr1
      obtain ⟨ge, ce, rfl⟩ := ownsRow_succ hve
      obtain ⟨hEc, hEf⟩ := cell_of_box_l hE
      obtain ⟨a5, c5, rfl, hbs5, hle5, _⟩ := bs_owned hx (puts_bytes (parts_is hp))
      have hc5 := owned_cap hx
      obtain ⟨K, hK, hKT⟩ := place2 cut (szs ps) (by omega)
      have hT := hide1 (rfl : szs ps = szs ps)
      generalize hTe : szs ps = T at *
      go_wp2_with fail
      go_loop [11] (fun x => ∃ l : Nat, l ≤ k ∧ x = .int .i64 l ∧ szs (ps.take l) ≤ K) (fun x => k - (intOf x).toNat)
      case atStart => exact ⟨0, by omega, rfl, Nat.zero_le _⟩
      case round =>
        obtain ⟨l, hlk, rfl, hlK⟩ := hrel
        by_cases h1 : l < k
        · have c1 : wr.cell? ⟨ge, l + 1, none⟩ = some (.int .i64 ((szs (ps.take (l + 1)) : Nat) : Int)) := by rw [hve.cellAt (l + 1) (by omega), endsL_get ps k (l + 1) (by omega)]
          by_cases h2 : szs (ps.take (l + 1)) ≤ K
          · go_wp2
            exact ⟨⟨l + 1, by omega, by go_num, h2⟩, by simp [intOf]; omega⟩
          · have hnext : l < k → K < szs (ps.take (l + 1)) := fun _ => by omega
            go_wp2
            clear c1 h2
            obtain ⟨t, et, ht⟩ := cut_row ps h4 K l (by omega) hlK (fun h => hnext (by omega))
            have h46 : ∀ p ∈ ps, p.length ≤ 65536 := fun p hp' => by have := h4 p hp'; omega
            have h4l : ∀ p ∈ ps.take l, p.length ≤ 65536 := fun p hp' => h46 p (List.mem_of_mem_take hp')
            have f1 : (recs (puts ps)).length = k := by have := count_put ps h46 [] rfl; rw [List.append_nil] at this; omega
            have f2 : endOf 0 (recs (puts ps)) = T := by have := endOf_put ps h46 [] rfl; rw [List.append_nil] at this; omega
            have f3 : (recs ((puts ps).take K)).length = l := by rw [et, count_put _ h4l t ht, List.length_take]; omega
            have f4 : endOf 0 (recs ((puts ps).take K)) = szs (ps.take l) := by rw [et, endOf_put _ h4l t ht]
            have hbsK := hbs5.pre K hKT
            have cl : wr.cell? ⟨ge, l, none⟩ = some (.int .i64 ((szs (ps.take l) : Nat) : Int)) := by rw [hve.cellAt l (by omega), endsL_get ps k l hlk]
            have hC1 : ∀ w', Below wr.heap.size wr w' → Calls Try.prog 21 #[.slice a5 T c5] w' fun e w'' => e = .returned (.int .i64 (k : Int)) ∧ Below w'.heap.size w' w'' := fun w' hb' => by
              have := count_d a5 T c5 _ w' (hbs5.later hb') hle5 hc5
              rwa [f1] at this
            have hW1 : ∀ w', Below wr.heap.size wr w' → Calls Try.prog 19 #[.slice a5 T c5] w' fun e w'' => e = .returned (.int .i64 (T : Int)) ∧ Below w'.heap.size w' w'' := fun w' hb' => by
              have := whole_d a5 T c5 _ w' (hbs5.later hb') hle5 hc5
              rwa [f2] at this
            have hC2 : ∀ w', Below wr.heap.size wr w' → Calls Try.prog 21 #[.slice a5 K c5] w' fun e w'' => e = .returned (.int .i64 (l : Int)) ∧ Below w'.heap.size w' w'' := fun w' hb' => by
              have := count_d a5 K c5 _ w' (hbsK.later hb') (by omega) hc5
              rwa [f3] at this
            have hW2 : ∀ w', Below wr.heap.size wr w' → Calls Try.prog 19 #[.slice a5 K c5] w' fun e w'' => e = .returned (.int .i64 ((szs (ps.take l) : Nat) : Int)) ∧ Below w'.heap.size w' w'' := fun w' hb' => by
              have := whole_d a5 K c5 _ w' (hbsK.later hb') (by omega) hc5
              rwa [f4] at this
            have hmx : Try.prog.follows .mixedOrders = true := by kernel_rfl
            rw [et] at hbsK
            have hbsk := hide1 hbsK
            have hown9 := owned_nil hx
            have HVE := hide1 hve
            have HEL := hide1 ((Array.getElem?_eq_some_iff.1 hE).1)
            have hAb : szs (ps.take l) ≤ 140737488355328 := by omega
            have hAm : ∀ j, j ≤ l → szs ((ps.take l).take j) = szs (ps.take j) := fun j hj => by rw [List.take_take, Nat.min_eq_left hj]
            have HAM := hide1 hAm
            clear hAm
            have hKc : K ≤ c5 := by omega
            have hlt1 : (l : Int) < (k : Int) + 1 := by omega
            have hlt2 : l < k + 1 := by omega
            clear f1 f2 f3 f4 hbs5 hbsK hx hve hlK hKT hle5 hs308 hbw hB1 hr1 hE hEf et h46
            generalize hAe : szs (ps.take l) = A at *
            go_region_held3 (fun w' => w'.cell? ⟨w.heap.size, 0, none⟩ = some (.slice a k cap) ∧ w'.cell? ⟨w1.heap.size + 1 + 1, 0, none⟩ = some (.slice (some ⟨ge, 0, none⟩) (k + 1) ce) ∧ w'.cell? ⟨ge, l, none⟩ = some (.int .i64 (A : Int)) ∧ Hid (Below wr.heap.size wr w'))
              (first | assumption | exact ⟨hq3, hEc, cl, hide1 ((Below.refl _ _).drew)⟩ | exact sb_later ‹_› ‹_›)
              (first
                | (go_at_call_has 21 (Value.slice a5 T c5); refine (hC1 _ (sb_out ‹_›)).mono ?_; rintro e wx ⟨rfl, hbx⟩)
                | (go_at_call_has 21 (Value.slice a5 K c5); refine (hC2 _ (sb_out ‹_›)).mono ?_; rintro e wx ⟨rfl, hbx⟩)
                | (go_at_call_has 19 (Value.slice a5 T c5); refine (hW1 _ (sb_out ‹_›)).mono ?_; rintro e wx ⟨rfl, hbx⟩)
                | (go_at_call_has 19 (Value.slice a5 K c5); refine (hW2 _ (sb_out ‹_›)).mono ?_; rintro e wx ⟨rfl, hbx⟩))
            obtain ⟨hqx, hEx, _, hBx⟩ := (by assumption : wx.cell? ⟨w.heap.size, 0, none⟩ = some (.slice a k cap) ∧ wx.cell? ⟨w1.heap.size + 1 + 1, 0, none⟩ = some (.slice (some ⟨ge, 0, none⟩) (k + 1) ce) ∧ wx.cell? ⟨ge, l, none⟩ = some (.int .i64 (A : Int)) ∧ Hid (Below wr.heap.size wr wx))
            have hB1x := bl2 hBx.out (below_one wx (.cells #[.int .i64 0] 3))
            have hall := all_d a5 K c5 (ps.take l) t (wx.alloc (.cells #[.int .i64 0] 3)) (hbsk.out.later hB1x) hKc hc5 hown9 ht h4l (by rw [hAe]; exact hAb)
            clear hC1 hC2 hW1 hW2 hEc hq3 cl
            go_wp2_with fail
            refine hall.mono ?_
            rintro e wy ⟨p, a', c', rfl, hpc, hbs', hle', hcc', hfresh, hby⟩
            have hXy : wy.heap[wx.heap.size]? = some (.cells #[.int .i64 0] 3 (0, 0)) := (hby.block _ (by simp)).trans (World.alloc_heap_new wx _)
            have hBwy0 := bl2 hB1x hby
            have hBwy := bl2 hBr hBwy0
            have hXge : wr.heap.size ≤ wx.heap.size := hBx.out.size
            have hXlt : wx.heap.size < wy.heap.size := (Array.getElem?_eq_some_iff.1 hXy).1
            have hEy := cell_later hby (cell_alloc_l (.cells #[.int .i64 0] 3) hEx)
            have hqy := cell_later hby (cell_alloc_l (.cells #[.int .i64 0] 3) hqx)
            have hvey : ∀ j, j ≤ l → wy.cell? ⟨ge, j, none⟩ = some (.int .i64 ((szs (ps.take j) : Nat) : Int)) := fun j hj => cell_later hBwy0 (by rw [HVE.out.cellAt j (by omega), endsL_get ps k j (by omega)])
            have hrl := (Array.getElem?_eq_some_iff.1 hr3).1
            have hry := (hBwy0.block _ hrl).trans hr3
            have hge := (HVE.out.lt ge rfl).2
            have hEl : w1.heap.size + 1 + 1 < wr.heap.size := HEL.out
            have hfr2 : ∀ j off, a' = some ⟨j, off, none⟩ → wx.heap.size + 1 ≤ j ∧ j < wy.heap.size := fun j off h => by have := hfresh j off h; simpa using this
            have hseq := all_seq hpc hbs' hle' hcc'
            have hll : (ps.take l).length = l := by rw [List.length_take]; omega
            rw [N_puts h4l, hll] at hseq
            clear hEx hqx hfresh hpc hbs' hle' hcc' hby hB1x hBx HVE hall hbx hbsk
            go_wp2_with fail
            refine (wpIn_wide (n := 5)).1 ?_
            refine range_cnt2 (w := wy) (gf := 30) (lb := #[.pointer (some ⟨p, 0, none⟩)]) rfl (enters_of Try.func30 (by kernel_rfl) rfl) hseq (fun _ _ => rfl) ?hS (fun k v W o h h' => rdc_put h h') (IB wy wx.heap.size) (fun _ _ _ => False) (ib_own wy _ hXlt) (fun _ _ _ _ _ h _ _ => h) ⟨⟨rfl, rfl, rfl, Nat.le_refl _, fun _ _ _ => rfl⟩, hXy⟩ ?round ?done ?stop
            case hS =>
              rintro (h | ⟨off, h⟩)
              · omega
              · have := (hfr2 _ off h).2; omega
            case round =>
              rintro lq k0 v W Kq hk0 hKq
              gi_wp2
              rintro W2 ⟨hg, hX⟩ ⟨g, cp, rfl, hsz, hown⟩
              have erk : rk (puts (ps.take l)) k0 = (szs (ps.take k0), (ps.getD k0 []).length) := by
                rw [rk_puts h4l (by omega), HAM.out k0 (by omega)]
                simp [List.getD_eq_getElem?_getD, hk0]
              have epay : pay (puts (ps.take l)) k0 = ps.getD k0 [] := by
                rw [pay_puts h4l (by omega)]
                simp [List.getD_eq_getElem?_getD, hk0]
              rw [erk] at hown ⊢
              rw [epay] at hown
              obtain ⟨b, off, rfl, hcell⟩ := hp.2 (by omega)
              obtain ⟨a2, len2, cap2, hck, hm2, hbs2⟩ := hcell k0 (by omega)
              have hBW : Below w.heap.size w W2 := hBwy.grown hg hBwy.size (fun j e => by cases e; exact Nat.le_trans hBr.size hXge)
              have hckW := cell_later hBW hck
              have hbsW := hbs2.later hBW
              have hEW := cell_gr hg (show w1.heap.size + 1 + 1 ≠ wx.heap.size by omega) hEy
              have hqW := cell_gr hg (show w.heap.size ≠ wx.heap.size by omega) hqy
              have hkW := cell_gr hg (show ge ≠ wx.heap.size by omega) (hvey k0 (by omega))
              obtain ⟨hXc, hXf⟩ := cell_of_box_l hX
              obtain ⟨_, _, e1, hbsp, _, _⟩ := bs_owned hown hbs2.2.1
              cases e1
              have hsame := same_any (ca := cp) (cb := cap2) hbsp hbsW
              rw [decide_eq_true rfl] at hsame
              have hS' : ∀ j, (wy.heap.size + 2 ≤ j ∧ j < wy.heap.size + 6 ∨ ∃ off, a' = some ⟨j, off, none⟩) → j ≠ wx.heap.size := by
                rintro j (h | ⟨off, h⟩)
                · omega
                · have := (hfr2 _ off h).1; omega
              have hI2 := setCell_box hX (.int .i64 ((k0 : Int) + 1))
              clear hvey hseq hcell hck hbs2 hown hX hbsp hbsW
              dsimp only
              gi_wp2_with (refine ⟨trivial, ?_⟩; gi_at_call 12; refine (CallsIn.inRound lq (callsIn_wide.2 hsame)).mono ?_; rintro e w' ⟨rfl, rfl⟩)
              exact ⟨(KeepsOthers.setCell _ _ _).from _, fun j hj => setCell_other _ _ _ (hS' j hj), gr_set hg, by simpa using hI2⟩
            case done =>
              rintro D W hD ⟨hg, hX⟩ hK
              obtain ⟨hXc, hXf⟩ := cell_of_box_l hX
              have hrW := (hg.block _ (Nat.lt_of_lt_of_le hrl hBwy0.size) (fun e => by have := Option.some.inj e; omega)).trans hry
              obtain ⟨hrc, hrf⟩ := cell_of_box_l hrW
              have hBW : Below w.heap.size w W := hBwy.grown hg hBwy.size (fun j e => by cases e; exact Nat.le_trans hBr.size hXge)
              have hK' := (KeepsOthers.setCell W ⟨w.heap.size + 1, 0, none⟩ (.bool true)).same D _ hK rfl
              have hbD : w.heap.size ≤ wy.heap.size := hBwy.size
              go_wp2
              refine ⟨by simp, .inl ⟨_, _, rfl, run_takeDeferred hK', ?_⟩⟩
              exact ⟨_, results_cb rfl _ (g := w.heap.size + 1) rfl (cell_kept (World.cell?_setCell_same' W ⟨w.heap.size + 1, 0, none⟩ (.bool true) (by rw [hrc]; rfl)) (grownBy_putObj' _ D (.deferred none)) (fun r e => by cases e; exact ⟨_, hK', rfl⟩)), rfl, (hBW.setCell (p := ⟨w.heap.size + 1, 0, none⟩) (Nat.le_succ _) _).trans (belowK_b (w := wy) hbD _ D _ _ hD hK' rfl rfl)⟩
            case stop =>
              rintro D c k0 W _ _ h _
              exact h.elim
        · have hnext : l < k → K < szs (ps.take (l + 1)) := fun h => absurd h h1
          have hgd : decide ((l : Int) + 1 < (k : Int) + 1) = false := decide_eq_false (by omega)
          go_wp2
          obtain ⟨t, et, ht⟩ := cut_row ps h4 K l (by omega) hlK (fun h => hnext (by omega))
          have h46 : ∀ p ∈ ps, p.length ≤ 65536 := fun p hp' => by have := h4 p hp'; omega
          have h4l : ∀ p ∈ ps.take l, p.length ≤ 65536 := fun p hp' => h46 p (List.mem_of_mem_take hp')
          have f1 : (recs (puts ps)).length = k := by have := count_put ps h46 [] rfl; rw [List.append_nil] at this; omega
          have f2 : endOf 0 (recs (puts ps)) = T := by have := endOf_put ps h46 [] rfl; rw [List.append_nil] at this; omega
          have f3 : (recs ((puts ps).take K)).length = l := by rw [et, count_put _ h4l t ht, List.length_take]; omega
          have f4 : endOf 0 (recs ((puts ps).take K)) = szs (ps.take l) := by rw [et, endOf_put _ h4l t ht]
          have hbsK := hbs5.pre K hKT
          have cl : wr.cell? ⟨ge, l, none⟩ = some (.int .i64 ((szs (ps.take l) : Nat) : Int)) := by rw [hve.cellAt l (by omega), endsL_get ps k l hlk]
          have hC1 : ∀ w', Below wr.heap.size wr w' → Calls Try.prog 21 #[.slice a5 T c5] w' fun e w'' => e = .returned (.int .i64 (k : Int)) ∧ Below w'.heap.size w' w'' := fun w' hb' => by
            have := count_d a5 T c5 _ w' (hbs5.later hb') hle5 hc5
            rwa [f1] at this
          have hW1 : ∀ w', Below wr.heap.size wr w' → Calls Try.prog 19 #[.slice a5 T c5] w' fun e w'' => e = .returned (.int .i64 (T : Int)) ∧ Below w'.heap.size w' w'' := fun w' hb' => by
            have := whole_d a5 T c5 _ w' (hbs5.later hb') hle5 hc5
            rwa [f2] at this
          have hC2 : ∀ w', Below wr.heap.size wr w' → Calls Try.prog 21 #[.slice a5 K c5] w' fun e w'' => e = .returned (.int .i64 (l : Int)) ∧ Below w'.heap.size w' w'' := fun w' hb' => by
            have := count_d a5 K c5 _ w' (hbsK.later hb') (by omega) hc5
            rwa [f3] at this
          have hW2 : ∀ w', Below wr.heap.size wr w' → Calls Try.prog 19 #[.slice a5 K c5] w' fun e w'' => e = .returned (.int .i64 ((szs (ps.take l) : Nat) : Int)) ∧ Below w'.heap.size w' w'' := fun w' hb' => by
            have := whole_d a5 K c5 _ w' (hbsK.later hb') (by omega) hc5
            rwa [f4] at this
          have hmx : Try.prog.follows .mixedOrders = true := by kernel_rfl
          rw [et] at hbsK
          have hbsk := hide1 hbsK
          have hown9 := owned_nil hx
          have HVE := hide1 hve
          have HEL := hide1 ((Array.getElem?_eq_some_iff.1 hE).1)
          have hAb : szs (ps.take l) ≤ 140737488355328 := by omega
          have hAm : ∀ j, j ≤ l → szs ((ps.take l).take j) = szs (ps.take j) := fun j hj => by rw [List.take_take, Nat.min_eq_left hj]
          have HAM := hide1 hAm
          clear hAm
          have hKc : K ≤ c5 := by omega
          have hlt1 : (l : Int) < (k : Int) + 1 := by omega
          have hlt2 : l < k + 1 := by omega
          clear f1 f2 f3 f4 hbs5 hbsK hx hve hlK hKT hle5 hs308 hbw hB1 hr1 hE hEf et h46
          generalize hAe : szs (ps.take l) = A at *
          go_region_held3 (fun w' => w'.cell? ⟨w.heap.size, 0, none⟩ = some (.slice a k cap) ∧ w'.cell? ⟨w1.heap.size + 1 + 1, 0, none⟩ = some (.slice (some ⟨ge, 0, none⟩) (k + 1) ce) ∧ w'.cell? ⟨ge, l, none⟩ = some (.int .i64 (A : Int)) ∧ Hid (Below wr.heap.size wr w'))
            (first | assumption | exact ⟨hq3, hEc, cl, hide1 ((Below.refl _ _).drew)⟩ | exact sb_later ‹_› ‹_›)
            (first
              | (go_at_call_has 21 (Value.slice a5 T c5); refine (hC1 _ (sb_out ‹_›)).mono ?_; rintro e wx ⟨rfl, hbx⟩)
              | (go_at_call_has 21 (Value.slice a5 K c5); refine (hC2 _ (sb_out ‹_›)).mono ?_; rintro e wx ⟨rfl, hbx⟩)
              | (go_at_call_has 19 (Value.slice a5 T c5); refine (hW1 _ (sb_out ‹_›)).mono ?_; rintro e wx ⟨rfl, hbx⟩)
              | (go_at_call_has 19 (Value.slice a5 K c5); refine (hW2 _ (sb_out ‹_›)).mono ?_; rintro e wx ⟨rfl, hbx⟩))
          obtain ⟨hqx, hEx, _, hBx⟩ := (by assumption : wx.cell? ⟨w.heap.size, 0, none⟩ = some (.slice a k cap) ∧ wx.cell? ⟨w1.heap.size + 1 + 1, 0, none⟩ = some (.slice (some ⟨ge, 0, none⟩) (k + 1) ce) ∧ wx.cell? ⟨ge, l, none⟩ = some (.int .i64 (A : Int)) ∧ Hid (Below wr.heap.size wr wx))
          have hB1x := bl2 hBx.out (below_one wx (.cells #[.int .i64 0] 3))
          have hall := all_d a5 K c5 (ps.take l) t (wx.alloc (.cells #[.int .i64 0] 3)) (hbsk.out.later hB1x) hKc hc5 hown9 ht h4l (by rw [hAe]; exact hAb)
          clear hC1 hC2 hW1 hW2 hEc hq3 cl
          go_wp2_with fail
          refine hall.mono ?_
          rintro e wy ⟨p, a', c', rfl, hpc, hbs', hle', hcc', hfresh, hby⟩
          have hXy : wy.heap[wx.heap.size]? = some (.cells #[.int .i64 0] 3 (0, 0)) := (hby.block _ (by simp)).trans (World.alloc_heap_new wx _)
          have hBwy0 := bl2 hB1x hby
          have hBwy := bl2 hBr hBwy0
          have hXge : wr.heap.size ≤ wx.heap.size := hBx.out.size
          have hXlt : wx.heap.size < wy.heap.size := (Array.getElem?_eq_some_iff.1 hXy).1
          have hEy := cell_later hby (cell_alloc_l (.cells #[.int .i64 0] 3) hEx)
          have hqy := cell_later hby (cell_alloc_l (.cells #[.int .i64 0] 3) hqx)
          have hvey : ∀ j, j ≤ l → wy.cell? ⟨ge, j, none⟩ = some (.int .i64 ((szs (ps.take j) : Nat) : Int)) := fun j hj => cell_later hBwy0 (by rw [HVE.out.cellAt j (by omega), endsL_get ps k j (by omega)])
          have hrl := (Array.getElem?_eq_some_iff.1 hr3).1
          have hry := (hBwy0.block _ hrl).trans hr3
          have hge := (HVE.out.lt ge rfl).2
          have hEl : w1.heap.size + 1 + 1 < wr.heap.size := HEL.out
          have hfr2 : ∀ j off, a' = some ⟨j, off, none⟩ → wx.heap.size + 1 ≤ j ∧ j < wy.heap.size := fun j off h => by have := hfresh j off h; simpa using this
          have hseq := all_seq hpc hbs' hle' hcc'
          have hll : (ps.take l).length = l := by rw [List.length_take]; omega
          rw [N_puts h4l, hll] at hseq
          clear hEx hqx hfresh hpc hbs' hle' hcc' hby hB1x hBx HVE hall hbx hbsk
          go_wp2_with fail
          refine (wpIn_wide (n := 5)).1 ?_
          refine range_cnt2 (w := wy) (gf := 30) (lb := #[.pointer (some ⟨p, 0, none⟩)]) rfl (enters_of Try.func30 (by kernel_rfl) rfl) hseq (fun _ _ => rfl) ?hS (fun k v W o h h' => rdc_put h h') (IB wy wx.heap.size) (fun _ _ _ => False) (ib_own wy _ hXlt) (fun _ _ _ _ _ h _ _ => h) ⟨⟨rfl, rfl, rfl, Nat.le_refl _, fun _ _ _ => rfl⟩, hXy⟩ ?round ?done ?stop
          case hS =>
            rintro (h | ⟨off, h⟩)
            · omega
            · have := (hfr2 _ off h).2; omega
          case round =>
            rintro lq k0 v W Kq hk0 hKq
            gi_wp2
            rintro W2 ⟨hg, hX⟩ ⟨g, cp, rfl, hsz, hown⟩
            have erk : rk (puts (ps.take l)) k0 = (szs (ps.take k0), (ps.getD k0 []).length) := by
              rw [rk_puts h4l (by omega), HAM.out k0 (by omega)]
              simp [List.getD_eq_getElem?_getD, hk0]
            have epay : pay (puts (ps.take l)) k0 = ps.getD k0 [] := by
              rw [pay_puts h4l (by omega)]
              simp [List.getD_eq_getElem?_getD, hk0]
            rw [erk] at hown ⊢
            rw [epay] at hown
            obtain ⟨b, off, rfl, hcell⟩ := hp.2 (by omega)
            obtain ⟨a2, len2, cap2, hck, hm2, hbs2⟩ := hcell k0 (by omega)
            have hBW : Below w.heap.size w W2 := hBwy.grown hg hBwy.size (fun j e => by cases e; exact Nat.le_trans hBr.size hXge)
            have hckW := cell_later hBW hck
            have hbsW := hbs2.later hBW
            have hEW := cell_gr hg (show w1.heap.size + 1 + 1 ≠ wx.heap.size by omega) hEy
            have hqW := cell_gr hg (show w.heap.size ≠ wx.heap.size by omega) hqy
            have hkW := cell_gr hg (show ge ≠ wx.heap.size by omega) (hvey k0 (by omega))
            obtain ⟨hXc, hXf⟩ := cell_of_box_l hX
            obtain ⟨_, _, e1, hbsp, _, _⟩ := bs_owned hown hbs2.2.1
            cases e1
            have hsame := same_any (ca := cp) (cb := cap2) hbsp hbsW
            rw [decide_eq_true rfl] at hsame
            have hS' : ∀ j, (wy.heap.size + 2 ≤ j ∧ j < wy.heap.size + 6 ∨ ∃ off, a' = some ⟨j, off, none⟩) → j ≠ wx.heap.size := by
              rintro j (h | ⟨off, h⟩)
              · omega
              · have := (hfr2 _ off h).1; omega
            have hI2 := setCell_box hX (.int .i64 ((k0 : Int) + 1))
            clear hvey hseq hcell hck hbs2 hown hX hbsp hbsW
            dsimp only
            gi_wp2_with (refine ⟨trivial, ?_⟩; gi_at_call 12; refine (CallsIn.inRound lq (callsIn_wide.2 hsame)).mono ?_; rintro e w' ⟨rfl, rfl⟩)
            exact ⟨(KeepsOthers.setCell _ _ _).from _, fun j hj => setCell_other _ _ _ (hS' j hj), gr_set hg, by simpa using hI2⟩
          case done =>
            rintro D W hD ⟨hg, hX⟩ hK
            obtain ⟨hXc, hXf⟩ := cell_of_box_l hX
            have hrW := (hg.block _ (Nat.lt_of_lt_of_le hrl hBwy0.size) (fun e => by have := Option.some.inj e; omega)).trans hry
            obtain ⟨hrc, hrf⟩ := cell_of_box_l hrW
            have hBW : Below w.heap.size w W := hBwy.grown hg hBwy.size (fun j e => by cases e; exact Nat.le_trans hBr.size hXge)
            have hK' := (KeepsOthers.setCell W ⟨w.heap.size + 1, 0, none⟩ (.bool true)).same D _ hK rfl
            have hbD : w.heap.size ≤ wy.heap.size := hBwy.size
            go_wp2
            refine ⟨by simp, .inl ⟨_, _, rfl, run_takeDeferred hK', ?_⟩⟩
            exact ⟨_, results_cb rfl _ (g := w.heap.size + 1) rfl (cell_kept (World.cell?_setCell_same' W ⟨w.heap.size + 1, 0, none⟩ (.bool true) (by rw [hrc]; rfl)) (grownBy_putObj' _ D (.deferred none)) (fun r e => by cases e; exact ⟨_, hK', rfl⟩)), rfl, (hBW.setCell (p := ⟨w.heap.size + 1, 0, none⟩) (Nat.le_succ _) _).trans (belowK_b (w := wy) hbD _ D _ _ hD hK' rfl rfl)⟩
          case stop =>
            rintro D c k0 W _ _ h _
            exact h.elim
end Go.Proofs.Ytfmjknknckjdiaa

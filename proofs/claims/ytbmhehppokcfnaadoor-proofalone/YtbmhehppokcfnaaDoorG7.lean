/- PRU, PRS, PRV, PRX, LAe, LAf, PRY, PO1, PO2, PO3, PO4, PO5: laid together. -/
import Derived.Maps.Own
import Derived.Maps.Views
import Derived.DeepKeys4
import Derived.Test.YtbmhehppokcfnaaDoorG6
import Derived.Test.YtbmhehppokcfnaaDoorG5
namespace Go.Proofs.YtbmhehppokcfnaaDoor
open Go.RowKit Go.Maps Sh
/-- The cells of ProofCome's argument. -/
def cmA (F R : Nat → Nat) (i n : Int) (a : Option Addr) (m cap : Nat) : Array Value := ((ab 32 F).toList ++ ([Value.int .i64 i, Value.int .i64 n, Value.slice a m cap] ++ (ab 32 R).toList)).toArray
section
variable {H : Type} {enc : TypeId × Value → H} {W : World} {held : Bool}
theorem sum_l {n : Nat} {cs : List Value} {x : DataW H × List MemPlace} (h2 : DataW.trod enc Tryd.prog W 0 (fun _ => true) held n 34 cs = some x) : ∃ F : Nat → Nat, (∀ j, F j < 256) ∧ cs = (ab 32 F).toList := by
  obtain ⟨xs, m, rfl, -, hlen, hx, hi⟩ := DataW.trod_array Tryd.underlying34 h2
  have hce : Tryd.prog.cellsOf 5 = 1 := by kernel_rfl
  have hct : Tryd.prog.cellsOf 34 = 32 := by kernel_rfl
  have hcell : ∀ i, i < 32 → ∃ n : Nat, n < 256 ∧ cs[i]? = some (.int .u8 (n : Int)) := by
    intro i hi32
    have h1 := hi i hi32
    have h2 : xs[i]? = some xs[i] := by simp [hx, hi32]
    rw [h2, hce, Nat.mul_one] at h1
    obtain ⟨n, hc, -, hw⟩ := DataW.trod_int Tryd.underlying5 h1
    have h3 : cs[i]? = some (.int .u8 n) := by
      have := congrArg (·[0]?) hc
      simpa [List.getElem?_take, List.getElem?_drop] using this
    simp only [Lit.wf, Bool.and_eq_true, decide_eq_true_eq] at hw
    have e1 : IntKind.u8.min = 0 := rfl
    have e2 : IntKind.u8.max = 255 := rfl
    refine ⟨n.toNat, by omega, ?_⟩
    rw [h3, show ((n.toNat : Nat) : Int) = n by omega]
  obtain ⟨F, hF⟩ := Deep.choose_lt hcell
  refine ⟨fun j => F j % 256, fun j => Nat.mod_lt _ (by decide), ?_⟩
  rw [hct] at hlen
  apply List.ext_getElem?
  intro i
  rcases Nat.lt_or_ge i 32 with h | h
  · obtain ⟨h3, h4⟩ := hF i h
    rw [h4, Array.getElem?_toList]
    have := arr_get 32 (fun j => Value.int .u8 ((F j % 256 : Nat) : Int)) i h
    rw [show (ab 32 fun j => F j % 256)[i]? = some (Value.int .u8 ((F i % 256 : Nat) : Int)) from this, Nat.mod_eq_of_lt h3]
  · rw [List.getElem?_eq_none (by omega), List.getElem?_eq_none (by simp only [Array.length_toList, ab_size]; exact h)]
theorem coming_in {cs : Array Value} {d : DataW H} {p : List MemPlace} (h : DataW.Trod enc Tryd.prog W 0 (fun _ => true) held 39 (.agg cs) d p) :
    ∃ (F R : Nat → Nat) (i n : Int) (a : Option Addr) (m cap : Nat) (ps : List (Nat → Nat)), cs = cmA F R i n a m cap ∧ (∀ j, F j < 256) ∧ ps.length = m ∧ SsAt W a ps ∧ m ≤ cap := by
  obtain ⟨fuel, h⟩ := h
  obtain ⟨xs, k, rfl, -, hl, hx, hi⟩ := DataW.trod_struct Tryd.underlying39 h
  have c34 : Tryd.prog.cellsOf 34 = 32 := by kernel_rfl
  have c3 : Tryd.prog.cellsOf 3 = 1 := by kernel_rfl
  have c22 : Tryd.prog.cellsOf 22 = 1 := by kernel_rfl
  have c39 : Tryd.prog.cellsOf 39 = 67 := by kernel_rfl
  have hx5 : xs.length = 5 := hx
  have hg : ∀ i (h : i < 5), xs[i]? = some (xs[i]'(by omega)) := fun i h => List.getElem?_eq_getElem _
  have h0 : DataW.trod enc Tryd.prog W 0 (fun _ => true) held k 34 ((cs.toList.drop 0).take (Tryd.prog.cellsOf 34)) = xs[0]? := hi 0 _ rfl
  have h1 : DataW.trod enc Tryd.prog W 0 (fun _ => true) held k 3 ((cs.toList.drop 32).take (Tryd.prog.cellsOf 3)) = xs[1]? := hi 1 _ rfl
  have h2 : DataW.trod enc Tryd.prog W 0 (fun _ => true) held k 3 ((cs.toList.drop 33).take (Tryd.prog.cellsOf 3)) = xs[2]? := hi 2 _ rfl
  have h3 : DataW.trod enc Tryd.prog W 0 (fun _ => true) held k 22 ((cs.toList.drop 34).take (Tryd.prog.cellsOf 22)) = xs[3]? := hi 3 _ rfl
  have h4 : DataW.trod enc Tryd.prog W 0 (fun _ => true) held k 34 ((cs.toList.drop 35).take (Tryd.prog.cellsOf 34)) = xs[4]? := hi 4 _ rfl
  rw [hg 0 (by omega)] at h0
  rw [hg 1 (by omega)] at h1
  rw [hg 2 (by omega)] at h2
  rw [hg 3 (by omega)] at h3
  rw [hg 4 (by omega)] at h4
  rw [c34] at h0 h4
  rw [c3] at h1 h2
  rw [c22] at h3
  have hcs : (Value.agg cs).cells.toList = cs.toList := rfl
  rw [hcs] at hl
  rw [c39] at hl
  generalize hL : cs.toList = L at *
  obtain ⟨F, hF, e0⟩ := sum_l h0
  obtain ⟨R, hR, e4⟩ := sum_l h4
  obtain ⟨i, e1, -, -⟩ := DataW.trod_int Tryd.underlying3 h1
  obtain ⟨n, e2, -, -⟩ := DataW.trod_int Tryd.underlying3 h2
  obtain ⟨a, m, cap, e3⟩ : ∃ a m cap, (L.drop 34).take 1 = [.slice a m cap] := by
    rcases DataW.trod_slice Tryd.underlying22 h3 with ⟨e, _⟩ | ⟨a, m, cap, _, _, _, _, e, _⟩
    · exact ⟨none, 0, 0, e⟩
    · exact ⟨some a, m, cap, e⟩
  rw [e3] at h3
  obtain ⟨ps, hs, hps, hcap⟩ := sums_in (a0 := a) (len0 := m) (cap0 := cap) ⟨_, h3⟩
  refine ⟨F, R, i, n, a, m, cap, ps, ?_, hF, hps, hs, hcap⟩
  have hsp : L = (L.drop 0).take 32 ++ ((L.drop 32).take 1 ++ ((L.drop 33).take 1 ++ ((L.drop 34).take 1 ++ (L.drop 35).take 32))) := by
    have t5 : (L.drop 35).take 32 = L.drop 35 := List.take_of_length_le (by rw [List.length_drop]; omega)
    have st : ∀ k, k < L.length → (L.drop k).take 1 ++ L.drop (k + 1) = L.drop k := fun k hk => by
      have := List.take_append_drop 1 (L.drop k)
      rwa [List.drop_drop] at this
    rw [t5, st 34 (by omega), st 33 (by omega), st 32 (by omega), List.drop_zero]
    exact (List.take_append_drop 32 L).symm
  rw [e0, e1, e2, e3, e4] at hsp
  have : cs = L.toArray := by rw [← hL]
  rw [this, hsp]
  rfl
end
end Go.Proofs.YtbmhehppokcfnaaDoor

namespace Go.Proofs.YtbmhehppokcfnaaDoor
open Go.RowKit Sh

set_option maxHeartbeats 8000000 in
set_option maxRecDepth 100000 in
theorem comes_ok {F R : Nat → Nat} {i n : Nat} {ps : List (Nat → Nat)} {bv : Bool} {a : Option Addr} {m cap : Nat} {W0 : World} (hg : Gl W0) (hm : m ≤ 100) (hi : i < n) (hn : n ≤ 1048576) (hl : m = (way i n).length) (hF : ∀ i, F i < 256) (hs : SsAt W0 a ps) (hps : ps.length = m) (hcap : m ≤ cap) (hbv : eqD (comeL (way i n).reverse ps F) R = bv) : Calls Tryd.prog 17 #[.agg (ab 32 F), .int .i64 ((i : Nat) : Int), .int .i64 ((n : Nat) : Int), .slice a m cap, .agg (ab 32 R)] W0 fun e w' => e = .returned (.bool true) ∧ Below W0.heap.size W0 w' := by
  have hq : ¬ (100 : Int) < (m : Int) := by omega
  have t1 : ¬ (n : Int) < 1 := by omega
  have t2 : ¬ (1048576 : Int) < (n : Int) := by omega
  have t3 : ¬ (i : Int) < 0 := by omega
  have t4 : ¬ (n : Int) ≤ (i : Int) := by omega
  have hLn := fun w => length_d hn hi w
  have hRl := fun w => refLen_d n i w hi hn
  have hwl := way_le i n
  have hq2 : m ≤ 1000 := by omega
  obtain ⟨A, hA⟩ : ∃ A, Hid (A = ab 32 F) := ⟨_, hide1 rfl⟩
  obtain ⟨C, hC⟩ : ∃ C, Hid (C = ab 32 R) := ⟨_, hide1 rfl⟩
  obtain ⟨Z, hZ⟩ : ∃ Z, Hid (Z = ab 32 fun _ => 0) := ⟨_, hide1 rfl⟩
  obtain ⟨X, hX⟩ : ∃ X, Hid (X = ab 32 (comeL (way i n).reverse ps F)) := ⟨_, hide1 rfl⟩
  have bxA : ∀ w : World, (Instr.box 34 (.agg A)).run Tryd.prog w = .ok (.pointer (some ⟨w.heap.size, 0, none⟩)) (w.alloc (.cells A 34)) := fun w => bx_agg w
  have bxC : ∀ w : World, (Instr.box 34 (.agg C)).run Tryd.prog w = .ok (.pointer (some ⟨w.heap.size, 0, none⟩)) (w.alloc (.cells C 34)) := fun w => bx_agg w
  have hzs : ∀ w : World, (zeroValue 34).run Tryd.prog w = .ok (.agg Z) w := fun w => by rw [hZ.out]; kernel_rfl
  have szA : (Tryd.prog.info? 34).map (·.size) = some A.size := by rw [hA.out]; exact sum_sz _
  have szC : (Tryd.prog.info? 34).map (·.size) = some C.size := by rw [hC.out]; exact sum_sz _
  have szX : (Tryd.prog.info? 34).map (·.size) = some X.size := by rw [hX.out]; exact sum_sz _
  have hXs : Z.size = X.size := by rw [hZ.out, hX.out, ab_size, ab_size]
  have oX : X.all (·.oneCell') = true := by rw [hX.out]; exact ab_one _ _
  have hcome := fun w (hw : Below W0.heap.size W0 w) => come_d (cap := cap) (gl_b hg hw) hF (hs.later hw) hps hi hn hl
  have hhold := fun w (hw : Below W0.heap.size W0 w) => holds_d (pcap := cap) (R := R) (gl_b hg hw) hF (hs.later hw) hps hi hn hl
  rw [← hA.out, ← hX.out] at hcome
  rw [hbv] at hhold
  rw [← hA.out, ← hC.out] at hhold
  have hrc := fun w (hw : Below W0.heap.size W0 w) => refCome_d n i ps m a cap F w hi hn hps hl hq2 hcap hF (hs.later hw)
  rw [← hA.out, ← hX.out] at hrc
  have HL := hide1 hl
  have HB := hide1 hbv
  clear hl hps hbv hs
  rw [← hA.out, ← hC.out]
  obtain ⟨w1, hw1⟩ : ∃ w1, Hid (w1 = (W0.alloc (.cells A 34)).alloc (.cells C 34)) := ⟨_, hide1 rfl⟩
  have hb1 : Below W0.heap.size W0 w1 := by rw [hw1.out]; exact ((Below.refl _ _).alloc (Nat.le_refl _) _).alloc (by simp) _
  have hrA : w1.heap[W0.heap.size]? = some (.cells A 34 (0, 0)) := by rw [hw1.out]; exact (Below.heap_alloc _ _ _ (by simp)).trans (World.alloc_heap_new W0 _)
  have hrC : w1.heap[W0.heap.size + 1]? = some (.cells C 34 (0, 0)) := by
    rw [hw1.out]; have := World.alloc_heap_new (W0.alloc (.cells A 34)) (.cells C 34); rwa [World.size_alloc] at this
  go_enter Tryd.func17, Tryd.ntmps17
  go_upto_region 1 with fail
  rw [← hw1.out]
  clear bxA bxC
  go_wp2_with fail
  refine (alive_t (gl_b hg hb1)).mono ?_
  rintro e w2 ⟨rfl, hb2⟩
  have hb02 := blw hb1 hb2
  have hA2 := (hb2.block _ (Array.getElem?_eq_some_iff.1 hrA).1).trans hrA
  have hC2 := (hb2.block _ (Array.getElem?_eq_some_iff.1 hrC).1).trans hrC
  clear hrA hrC
  go_wp2_with (refine wpList_load_row rfl 34 (.tmp 5) rfl W0.heap.size A 34 rfl Tryd.underlying34 szA hA2 ?_)
  refine (hcome w2 hb02).mono ?_
  rintro e w3 ⟨rfl, hb3⟩
  have hb03 := blw hb02 hb3
  have hr11 := World.alloc_heap_new w3 (.cells Z 34)
  obtain ⟨w4, hw4⟩ : ∃ w4, Hid (w4 = (w3.alloc (.cells Z 34)).setRow w3.heap.size X) := ⟨_, hide1 rfl⟩
  have hwr4 := wrt_row (c' := X) hr11
  have hb4 : Below w3.heap.size w3 w4 := by rw [hw4.out]; exact below_wrt ((Below.refl _ _).alloc (Nat.le_refl _) _) hwr4 (Nat.le_refl _) (by simp)
  have hX4 : w4.heap[w3.heap.size]? = some (.cells X 34 (0, 0)) := by rw [hw4.out]; exact hwr4.row
  have hA4 := (blk2 hb3 hb4 hA2)
  have hC4 := (blk2 hb3 hb4 hC2)
  have hb04 := blw hb03 hb4
  clear hwr4 hA2 hC2 hb3 hb4 hb2 hb1
  go_wp2_with (first
    | (refine wpList_store_row rfl 34 (.tmp 11) (.tmp 27) rfl w3.heap.size X Z 34 rfl rfl szX hr11 hXs oX rfl ?_; rw [← hw4.out])
    | (refine wpList_load_row rfl 34 (.tmp 5) rfl W0.heap.size A 34 rfl Tryd.underlying34 szA hA4 ?_)
    | (refine wpList_load_row rfl 34 (.tmp 9) rfl (W0.heap.size + 1) C 34 rfl Tryd.underlying34 szC hC4 ?_))
  refine (hhold w4 hb04).mono ?_
  rintro e w5 ⟨rfl, hb5⟩
  have hX5 := (hb5.block _ (Array.getElem?_eq_some_iff.1 hX4).1).trans hX4
  have hC5 := (hb5.block _ (Array.getElem?_eq_some_iff.1 hC4).1).trans hC4
  have hb05 := blw hb04 hb5
  have hA5 := (hb5.block _ (Array.getElem?_eq_some_iff.1 hA4).1).trans hA4
  clear hX4 hC4 hA4 hr11 hcome hhold
  obtain ⟨N, hN⟩ : ∃ N, Hid (N = (way i n).length) := ⟨_, hide1 rfl⟩
  rw [← hN.out] at hLn hRl
  have hmn : ((m : Int) != (N : Int)) = false := by rw [HL.out, hN.out]; simp
  have hnn : ((N : Int) != (N : Int)) = false := by simp
  have hl11 := fun w (hb : Below w5.heap.size w5 w) => ld_rw szX ((hb.block _ (Array.getElem?_eq_some_iff.1 hX5).1).trans hX5)
  have hXX := hide1 (congrArg Value.agg hX.out)
  have hCC := hide1 (congrArg Value.agg hC.out)
  go_wp2_with fail
  refine (hLn w5).mono ?_
  rintro e w6 ⟨rfl, hb6⟩
  go_wp2_with fail
  refine (hRl w6).mono ?_
  rintro e w7 ⟨rfl, rfl⟩
  go_wp2_with fail
  refine (hRl w7).mono ?_
  rintro e w8 ⟨rfl, rfl⟩
  have hb06 := blw hb05 hb6
  have hA6 := (hb6.block _ (Array.getElem?_eq_some_iff.1 hA5).1).trans hA5
  go_wp2_with (refine wpList_load_row rfl 34 (.tmp 5) rfl W0.heap.size A 34 rfl Tryd.underlying34 szA hA6 ?_)
  refine (hrc _ hb06).mono ?_
  rintro e w9 ⟨tv, rfl, -, hb9⟩
  have hr14 := World.alloc_heap_new w9 (.cells Z 34)
  obtain ⟨wa, hwa⟩ : ∃ wa, Hid (wa = (w9.alloc (.cells Z 34)).setRow w9.heap.size X) := ⟨_, hide1 rfl⟩
  have hwra := wrt_row (c' := X) hr14
  have hba : Below w9.heap.size w9 wa := by rw [hwa.out]; exact below_wrt ((Below.refl _ _).alloc (Nat.le_refl _) _) hwra (Nat.le_refl _) (by simp)
  have hXa : wa.heap[w9.heap.size]? = some (.cells X 34 (0, 0)) := by rw [hwa.out]; exact hwra.row
  have hb5a := blw (blw hb6 hb9) hba
  have hl11a := hl11 wa hb5a
  have hl14a := ld_rw szX hXa
  have hl9a := ld_rw szC ((hb5a.block _ (Array.getElem?_eq_some_iff.1 hC5).1).trans hC5)
  have hb0a := blw hb05 hb5a
  clear hrc hl11 hwra hXa hb9 hba hb6 hb06 hA6 hb5a
  go_upto_region 14 with (refine wpList_store_row rfl 34 (.tmp 14) (.tmp 97) rfl w9.heap.size X Z 34 rfl rfl szX hr14 hXs oX rfl ?_; rw [← hwa.out])
  clear hr14
  cases bv with
  | true =>
    go_wp2_with (first
      | (refine wpList_ld rfl 34 (.tmp 11) rfl (.pointer (some ⟨w3.heap.size, 0, none⟩)) rfl hl11a ?_)
      | (refine wpList_ld rfl 34 (.tmp 14) rfl (.pointer (some ⟨w9.heap.size, 0, none⟩)) rfl hl14a ?_)
      | (refine wpList_ld rfl 34 (.tmp 9) rfl (.pointer (some ⟨W0.heap.size + 1, 0, none⟩)) rfl hl9a ?_)
      | (refine wpList_eqG rfl (.tmp 102) (.tmp 103) rfl hXX.out hXX.out (eqD_refl _) ?_)
      | (refine wpList_eqG rfl (.tmp 108) (.tmp 109) rfl hXX.out hCC.out HB.out ?_))
    go_ret
    exact ⟨rfl, hb0a⟩
  | false =>
    go_wp2_with (first
      | (refine wpList_ld rfl 34 (.tmp 11) rfl (.pointer (some ⟨w3.heap.size, 0, none⟩)) rfl hl11a ?_)
      | (refine wpList_ld rfl 34 (.tmp 14) rfl (.pointer (some ⟨w9.heap.size, 0, none⟩)) rfl hl14a ?_)
      | (refine wpList_ld rfl 34 (.tmp 9) rfl (.pointer (some ⟨W0.heap.size + 1, 0, none⟩)) rfl hl9a ?_)
      | (refine wpList_eqG rfl (.tmp 102) (.tmp 103) rfl hXX.out hXX.out (eqD_refl _) ?_)
      | (refine wpList_eqG rfl (.tmp 108) (.tmp 109) rfl hXX.out hCC.out HB.out ?_))
    go_ret
    exact ⟨rfl, hb0a⟩
theorem comes_walk {F R : Nat → Nat} {i n : Int} {a : Option Addr} {m cap : Nat} {ps : List (Nat → Nat)} {W0 : World} (hF : ∀ i, F i < 256) (hps : ps.length = m) (hs : SsAt W0 a ps) (hcap : m ≤ cap) (hg : Gl W0) : Calls Tryd.prog 17 #[.agg (ab 32 F), .int .i64 i, .int .i64 n, .slice a m cap, .agg (ab 32 R)] W0 fun e w' => e = .returned (.bool true) ∧ Below W0.heap.size W0 w' := by
  rcases Nat.lt_or_ge 100 m with h | h
  · exact comes_big hg h
  · by_cases hb : badR i n
    · exact comes_bad hg h hb
    · unfold badR at hb
      obtain ⟨k, rfl⟩ : ∃ k : Nat, i = (k : Int) := ⟨i.toNat, by omega⟩
      obtain ⟨l, rfl⟩ : ∃ l : Nat, n = (l : Int) := ⟨n.toNat, by omega⟩
      by_cases hl : m = (way k l).length
      · exact comes_ok hg h (by omega) (by omega) hl hF hs hps hcap rfl
      · exact comes_len hg h (by omega) (by omega) hl
end Go.Proofs.YtbmhehppokcfnaaDoor

namespace Go.Proofs.YtbmhehppokcfnaaDoor
open Go.RowKit Go.Maps Sh
theorem cm_size (F R : Nat → Nat) (i n : Int) (a : Option Addr) (m cap : Nat) : (cmA F R i n a m cap).size = 67 := by
  unfold cmA
  simp only [List.size_toArray, List.length_append, Array.length_toList, ab_size]
  rfl
theorem cm_F {F R : Nat → Nat} {i n : Int} {a : Option Addr} {m cap j : Nat} (h : j < 32) : (cmA F R i n a m cap)[j]? = some (.int .u8 ((F j : Nat) : Int)) := by
  unfold cmA
  rw [List.getElem?_toArray, List.getElem?_append_left (by simp only [Array.length_toList, ab_size]; exact h), Array.getElem?_toList]
  exact arr_get _ _ _ h
theorem cm_R {F R : Nat → Nat} {i n : Int} {a : Option Addr} {m cap j : Nat} (h : j < 32) : (cmA F R i n a m cap)[35 + j]? = some (.int .u8 ((R j : Nat) : Int)) := by
  unfold cmA
  rw [List.getElem?_toArray, List.getElem?_append_right (by simp only [Array.length_toList, ab_size]; omega), Array.length_toList, ab_size, List.getElem?_append_right (by show 3 ≤ _; omega)]
  show (ab 32 R).toList[35 + j - 32 - 3]? = _
  rw [show 35 + j - 32 - 3 = j by omega, Array.getElem?_toList]
  exact arr_get _ _ _ h
theorem cm_m {F R : Nat → Nat} {i n : Int} {a : Option Addr} {m cap : Nat} : (cmA F R i n a m cap)[32]? = some (.int .i64 i) ∧ (cmA F R i n a m cap)[33]? = some (.int .i64 n) ∧ (cmA F R i n a m cap)[34]? = some (.slice a m cap) := by
  have h : ∀ k, k < 3 → (cmA F R i n a m cap)[32 + k]? = [Value.int .i64 i, Value.int .i64 n, Value.slice a m cap][k]? := fun k hk => by
    unfold cmA
    rw [List.getElem?_toArray, List.getElem?_append_right (by simp only [Array.length_toList, ab_size]; omega), Array.length_toList, ab_size, show 32 + k - 32 = k by omega, List.getElem?_append_left (by show k < 3; exact hk)]
  exact ⟨h 0 (by decide), h 1 (by decide), h 2 (by decide)⟩
theorem ld_mid {w : World} {b off : Nat} {c : Array Value} {t0 : TypeId} {F : Nat → Nat} (h : w.heap[b]? = some (.cells c t0 (0, 0))) (hc : ∀ j, j < 32 → c[off + j]? = some (.int .u8 ((F j : Nat) : Int))) : (Instr.loadAt 34 (.pointer (some ⟨b, off, none⟩))).run Tryd.prog w = .ok (.agg (ab 32 F)) w := by
  rw [ab_list]
  refine run_loadAt_mid w b off 34 _ _ (fun j v hj => ?_) Tryd.underlying34 rfl (by rw [List.length_map, List.length_range]; kernel_rfl)
  rw [List.getElem?_map] at hj
  rcases Nat.lt_or_ge j 32 with h1 | h1
  · rw [List.getElem?_range h1, Option.map_some] at hj
    cases hj
    rw [cell_of_row _ _ _ _ _ _ h]
    exact hc j h1
  · rw [List.getElem?_eq_none (by simpa using h1)] at hj; cases hj
set_option maxHeartbeats 8000000 in
set_option maxRecDepth 100000 in
theorem come_walk {F R : Nat → Nat} {i n : Int} {a : Option Addr} {m cap : Nat} {ps : List (Nat → Nat)} {W0 : World} (hF : ∀ i, F i < 256) (hps : ps.length = m) (hs : SsAt W0 a ps) (hcap : m ≤ cap) (hg : Gl W0) : Calls Tryd.prog 4 #[.agg (cmA F R i n a m cap)] W0 fun e w' => e = .returned (.bool true) ∧ Below W0.heap.size W0 w' := by
  obtain ⟨X, hX⟩ : ∃ X, Hid (X = cmA F R i n a m cap) := ⟨_, hide1 rfl⟩
  rw [← hX.out]
  have bx : ∀ w : World, (Instr.box 39 (.agg X)).run Tryd.prog w = .ok (.pointer (some ⟨w.heap.size, 0, none⟩)) (w.alloc (.cells X 39)) := fun w => bx_agg w
  have hal : Below W0.heap.size W0 (W0.alloc (.cells X 39)) := (Below.refl _ _).alloc (Nat.le_refl _) _
  have hr := World.alloc_heap_new W0 (.cells X 39)
  have hcall := comes_walk (F := F) (R := R) (i := i) (n := n) (cap := cap) hF hps (hs.later hal) hcap (gl_b hg hal)
  obtain ⟨w1, hw1⟩ : ∃ w1, Hid (w1 = W0.alloc (.cells X 39)) := ⟨_, hide1 rfl⟩
  rw [← hw1.out] at hal hr hcall
  obtain ⟨c1, c2, c3⟩ := cm_m (F := F) (R := R) (i := i) (n := n) (a := a) (m := m) (cap := cap)
  have k1 : w1.cell? ⟨W0.heap.size, 32, none⟩ = some (.int .i64 i) := by rw [cell_of_row _ _ _ _ _ _ hr, hX.out]; exact c1
  have k2 : w1.cell? ⟨W0.heap.size, 33, none⟩ = some (.int .i64 n) := by rw [cell_of_row _ _ _ _ _ _ hr, hX.out]; exact c2
  have k3 : w1.cell? ⟨W0.heap.size, 34, none⟩ = some (.slice a m cap) := by rw [cell_of_row _ _ _ _ _ _ hr, hX.out]; exact c3
  have l1 := ld_mid (F := F) (off := 0) hr (fun j hj => by rw [hX.out, Nat.zero_add]; exact cm_F hj)
  have l2 := ld_mid (F := R) (off := 35) hr (fun j hj => by rw [hX.out]; exact cm_R hj)
  clear c1 c2 c3 hr hs
  go_enter Tryd.func4, Tryd.ntmps4
  go_upto_region 1 with fail
  rw [← hw1.out]
  go_wp2_with (first
    | (refine wpList_ld rfl 34 (.tmp 3) rfl (.pointer (some ⟨W0.heap.size, 0, none⟩)) rfl l1 ?_)
    | (refine wpList_ld rfl 34 (.tmp 11) rfl (.pointer (some ⟨W0.heap.size, 35, none⟩)) rfl l2 ?_))
  refine hcall.mono ?_
  rintro e w2 ⟨rfl, hb2⟩
  have hb02 := blw hal hb2
  go_wp2
  go_ret
  exact ⟨rfl, hb02⟩
end Go.Proofs.YtbmhehppokcfnaaDoor

namespace Go.Proofs.YtbmhehppokcfnaaDoor
open Go.RowKit Sh
theorem txt_F {F G : Nat → Nat} {i : Nat} (h : i < 32) : txt F G (i + 1) = F i := by
  unfold txt
  rw [if_neg (by omega), if_pos (by omega), show i + 1 - 1 = i by omega]
theorem txt_G {F G : Nat → Nat} {i : Nat} : txt F G (i + 33) = G i := by
  unfold txt
  rw [if_neg (by omega), if_neg (by omega), show i + 33 - 33 = i by omega]
theorem txt_apart {F G F' G' : Nat → Nat} (h : ∀ i, i < 65 → txt F G i = txt F' G' i) : Eq32 F F' ∧ Eq32 G G' := by
  constructor
  · intro i hi
    have := h (i + 1) (by omega)
    rwa [txt_F hi, txt_F hi] at this
  · intro i hi
    have := h (i + 33) (by omega)
    rwa [txt_G, txt_G] at this
theorem nd_cases {F G F' G' : Nat → Nat} (h : Eq32 (nd F G) (nd F' G')) : (Eq32 F F' ∧ Eq32 G G') ∨ Clash (txt F G) (txt F' G') := by
  by_cases he : ∀ i, i < 65 → txt F G i = txt F' G' i
  · exact .inl (txt_apart he)
  · refine .inr ⟨h, ?_⟩
    obtain ⟨i, hi⟩ := Classical.not_forall.1 he
    exact ⟨i, Classical.not_imp.1 hi |>.1, Classical.not_imp.1 hi |>.2⟩
theorem alone_clash : ∀ (n i : Nat) (L ps : List (Nat → Nat)) (F : Nat → Nat), L.length = n → i < n → ps.length = (way i n).length → Eq32 (comeL (way i n).reverse ps F) (root L) → ¬ Eq32 F (L.getD i fun _ => 0) → ∃ T ∈ ctxL (way i n).reverse ps F, ∃ U ∈ texts L, Clash T U := by
  intro n
  induction n using Nat.strongRecOn with
  | ind n ih =>
    intro i L ps F hL hi hl he hne
    rcases Nat.lt_or_ge n 2 with h2 | h2
    · obtain rfl : n = 1 := by omega
      obtain rfl : i = 0 := by omega
      obtain ⟨x, rfl⟩ : ∃ x, L = [x] := List.length_eq_one_iff.1 hL
      rw [way_1] at hl he
      obtain rfl : ps = [] := List.eq_nil_of_length_eq_zero hl
      rw [root_1] at he
      exact absurd he hne
    · have hc := cut_in h2
      have hm1 : 1 ≤ ps.length := by
        rcases Nat.lt_or_ge i (cut n) with h | h
        · rw [way_len_lo h2 h] at hl; omega
        · rw [way_len_hi h2 h] at hl; omega
      have e1 := snoc_of rfl hm1
      have lt1 : (ps.take (ps.length - 1)).length = ps.length - 1 := by rw [List.length_take]; omega
      rw [root_n (by omega), hL] at he
      have htx := texts_n (l := L) (by omega)
      rw [hL] at htx
      generalize ps.take (ps.length - 1) = qs at *
      generalize (ps.getD (ps.length - 1) fun _ => 0) = p at *
      rw [e1] at he ⊢
      rcases Nat.lt_or_ge i (cut n) with h | h
      · rw [way_len_lo h2 h] at hl
        rw [come_lo h2 h (by omega)] at he
        rw [ctx_lo h2 h (by omega)]
        rcases nd_cases he with ⟨h3, _⟩ | h3
        · obtain ⟨T, hT, U, hU, hcl⟩ := ih (cut n) hc.2.1 i (L.take (cut n)) qs F (by rw [List.length_take]; omega) h (by omega) h3 (by simpa [List.getD_eq_getElem?_getD, h] using hne)
          exact ⟨T, List.mem_append_left _ hT, U, by rw [htx]; exact List.mem_append_left _ (List.mem_append_left _ hU), hcl⟩
        · exact ⟨_, List.mem_append_right _ (List.mem_singleton.2 rfl), _, by rw [htx]; exact List.mem_append_right _ (List.mem_singleton.2 rfl), h3⟩
      · rw [way_len_hi h2 h] at hl
        rw [come_hi h2 h (by omega)] at he
        rw [ctx_hi h2 h (by omega)]
        rcases nd_cases he with ⟨_, h3⟩ | h3
        · obtain ⟨T, hT, U, hU, hcl⟩ := ih (n - cut n) (by omega) (i - cut n) (L.drop (cut n)) qs F (by rw [List.length_drop]; omega) (by omega) (by omega) h3 (by simpa [List.getD_eq_getElem?_getD, List.getElem?_drop, show cut n + (i - cut n) = i by omega] using hne)
          exact ⟨T, List.mem_append_left _ hT, U, by rw [htx]; exact List.mem_append_left _ (List.mem_append_right _ hU), hcl⟩
        · exact ⟨_, List.mem_append_right _ (List.mem_singleton.2 rfl), _, by rw [htx]; exact List.mem_append_right _ (List.mem_singleton.2 rfl), h3⟩
end Go.Proofs.YtbmhehppokcfnaaDoor

namespace Go.Proofs.YtbmhehppokcfnaaDoor
open Go.RowKit Go.Maps Sh

set_option maxRecDepth 100000 in
theorem laidO : laidOutB Tryd.prog = true := by kernel_rfl
set_option maxRecDepth 100000 in
theorem rowK : (34 : TypeId) < Tryd.prog.types.size := of_decide_eq_true (by kernel_rfl)
set_option maxRecDepth 100000 in
theorem wideK : (match Tryd.prog.underlying 34 with | some (.array _ _) | some (.struct _) => true | _ => false) = true := by rw [Tryd.underlying34]
set_option maxRecDepth 100000 in
theorem keyL : Keyed Tryd.prog 34 := Keyed.of_law (deep_law_laid laidO (m := 3) (by omega) rowK (by kernel_rfl) wideK)
set_option maxRecDepth 100000 in
theorem mapM_some {α β : Type} {f : α → Option β} {g : α → β} : ∀ l : List α, (∀ x ∈ l, f x = some (g x)) → l.mapM f = some (l.map g)
  | [], _ => rfl
  | x :: r, h => by
    rw [List.mapM_cons, h x (by simp), mapM_some r (fun y hy => h y (by simp [hy]))]; rfl
set_option maxRecDepth 100000 in
theorem key_s (F : Nat → Nat) (hF : ∀ i, F i < 256) : ∃ kl, keyOf Tryd.prog 34 (.agg (ab 32 F)) = some kl := by
  have h1 : Tryd.prog.keyType 34 = true := by kernel_rfl
  have c1 : Tryd.prog.cellsOf 5 = 1 := by kernel_rfl
  have c2 : Tryd.prog.cellsOf 34 = 32 := by kernel_rfl
  have h2 : (Value.agg (ab 32 F)).formed Tryd.prog 34 = true := by simp [Value.formed, Tryd.underlying34, c2, ab_size]
  have hl : (Value.agg (ab 32 F)).cells.toList = (List.range 32).map fun j => Value.int .u8 ((F j : Nat) : Int) := by
    show (ab 32 F).toList = _
    rw [ab_list]
  have h3 : Tryd.prog.keyLits (Tryd.prog.types.size + 1) 34 (Value.agg (ab 32 F)).cells.toList = some (((List.range 32).map fun i => [Lit.int .u8 ((F i : Nat) : Int)]).flatten) := by
    rw [hl]
    unfold Program.keyLits
    rw [Tryd.underlying34]
    have hm : (List.range 32).mapM (fun i => Tryd.prog.keyLits Tryd.prog.types.size 5 ((((List.range 32).map fun j => Value.int .u8 ((F j : Nat) : Int)).drop (i * Tryd.prog.cellsOf 5)).take (Tryd.prog.cellsOf 5))) = some ((List.range 32).map fun i => [Lit.int .u8 ((F i : Nat) : Int)]) := by
      refine mapM_some _ fun i hi => ?_
      have hi := List.mem_range.1 hi
      rw [c1, Nat.mul_one]
      have e : (((List.range 32).map fun j => Value.int .u8 ((F j : Nat) : Int)).drop i).take 1 = [Value.int .u8 ((F i : Nat) : Int)] := by
        rw [List.take_one, List.head?_drop, List.getElem?_map, List.getElem?_range hi]; rfl
      rw [e]
      obtain ⟨k, hk⟩ : ∃ k, Tryd.prog.types.size = k + 1 := ⟨Tryd.prog.types.size - 1, (Nat.succ_pred_eq_of_pos (Nat.lt_of_le_of_lt (Nat.zero_le _) rowK)).symm⟩
      rw [hk]
      unfold Program.keyLits
      rw [Tryd.underlying5]
      have hw : (Lit.int .u8 ((F i : Nat) : Int)).wf = true := by
        have := hF i
        simp only [Lit.wf, Bool.and_eq_true, decide_eq_true_eq]
        have e1 : IntKind.u8.min = 0 := rfl
        have e2 : IntKind.u8.max = 255 := rfl
        omega
      simp [hw]
    simp only [List.length_map, List.length_range, c2, if_true, hm, Option.map_some]
  refine ⟨.string (keyBytes (((List.range 32).map fun i => [Lit.int .u8 ((F i : Nat) : Int)]).flatten)), ?_⟩
  unfold keyOf
  rw [Tryd.underlying34]
  simp only [h1, h2, Bool.and_self, if_true, h3, Option.map_some]
end Go.Proofs.YtbmhehppokcfnaaDoor

namespace Go.Proofs.YtbmhehppokcfnaaDoor
open Go.RowKit Go.Maps Sh

theorem str_inj {x y : List Int} (hx : ∀ z ∈ x, 0 ≤ z ∧ z < 256) (hy : ∀ z ∈ y, 0 ≤ z ∧ z < 256) (h : (strOfNums x).data.toList = (strOfNums y).data.toList) : x = y := by
  have h1 : x.map (fun n => UInt8.ofNat n.toNat) = y.map (fun n => UInt8.ofNat n.toNat) := by
    rw [← strOfNums_data, ← strOfNums_data]; exact h
  have h2 : ∀ l : List Int, (∀ z ∈ l, 0 ≤ z ∧ z < 256) → (l.map (fun n => UInt8.ofNat n.toNat)).map (fun u => ((u.toNat : Nat) : Int)) = l := by
    intro l hl
    rw [List.map_map]
    conv => rhs; rw [← List.map_id l]
    apply List.map_congr_left
    intro z hz
    have := hl z hz
    simp
    omega
  rw [← h2 x hx, ← h2 y hy, h1]
/-- A text's string. -/
def stT (T : Nat → Nat) : ByteArray := strOfNums (numsF 65 T)
theorem stT_inj {T U : Nat → Nat} (hT : ∀ i, T i < 256) (hU : ∀ i, U i < 256) (h : (stT T).data.toList = (stT U).data.toList) : ∀ i, i < 65 → T i = U i := by
  have hb : ∀ {V : Nat → Nat}, (∀ i, V i < 256) → ∀ z ∈ numsF 65 V, 0 ≤ z ∧ z < 256 := by
    intro V hV z hz
    obtain ⟨i, _, rfl⟩ := List.mem_map.1 hz
    have := hV i
    omega
  have h1 := str_inj (hb hT) (hb hU) h
  intro i hi
  have h2 := congrArg (·[i]?) h1
  simp only [numsF, List.getElem?_map, List.getElem?_range hi, Option.map_some, Option.some.injEq] at h2
  omega
theorem stT_size (T : Nat → Nat) : (stT T).size ≤ maxLen := by
  have h1 : (stT T).data.toList.length = 65 := by
    unfold stT
    rw [strOfNums_data]; simp [numsF]
  have h2 : (stT T).size = 65 := by
    rw [Array.length_toList] at h1
    exact h1
  unfold maxLen; omega
/-- What the rounds have seen: each text's string stands at its digest. -/
def Seen (D : DataW Unit) (key : Nat → Lit) (T : List (Nat → Nat)) (k : Nat) : Prop := ∀ i, i < k → D.atKey (key i) .nil = .lit (.string (stT (T.getD i fun _ => 0)).data.toList)
theorem isMap_own {w : World} {P : Program} {k : TypeId} {R : Value → Option (DataW Unit × List MemPlace)} {b n : Nat} {D : DataW Unit} (h : w.ownsMap P k R b n D) : IsMap D := by
  obtain ⟨es, clock, _, _, _, rfl⟩ := h
  exact ⟨_, rfl⟩
set_option maxRecDepth 100000 in
/-- A look-up: nothing there, or a text's string. -/
theorem look_s {w : World} {b n : Nat} {D : DataW Unit} {F : Nat → Nat} {kl : Lit} (h : w.ownsMap Tryd.prog 34 (plainElem Tryd.prog 9) b n D) (hk : keyOf Tryd.prog 34 (.agg (ab 32 F)) = some kl) :
    ((Instr.lookup 93 (.map (some b)) (.agg (ab 32 F)) true).run Tryd.prog w = .ok (.tuple #[.string ByteArray.empty, .bool false]) w ∧ ∀ z, D.atKey kl z = z) ∨
    ∃ s, (Instr.lookup 93 (.map (some b)) (.agg (ab 32 F)) true).run Tryd.prog w = .ok (.tuple #[.string s, .bool true]) w ∧ ∀ z, D.atKey kl z = .lit (.string s.data.toList) := by
  obtain ⟨es, clock, hb, hF, _, rfl⟩ := h
  have hz : (zeroValue 9).run Tryd.prog w = .ok (.string ByteArray.empty) w := by kernel_rfl
  rcases fit_look true keyL Tryd.underlying93 hz hb hF hk with ⟨h1, _, h2⟩ | ⟨e0, y, _, _, h1, h2, h3, _⟩
  · exact .inl ⟨h1, h2⟩
  · refine .inr ?_
    have hy : ∃ s, e0.val = .string s ∧ y.1 = .lit (.string s.data.toList) := by
      unfold plainElem at h2
      rw [Tryd.underlying9] at h2
      cases hv : e0.val with
      | string s =>
        rw [hv] at h2
        simp only at h2
        split at h2
        · cases h2; exact ⟨s, rfl, rfl⟩
        · cases h2
      | _ => rw [hv] at h2; simp at h2
    obtain ⟨s, e1, e2⟩ := hy
    refine ⟨s, by rw [h1, e1]; rfl, fun z => by rw [h3 z, e2]⟩
end Go.Proofs.YtbmhehppokcfnaaDoor

namespace Go.Proofs.YtbmhehppokcfnaaDoor
open Go.RowKit Go.Maps Sh

theorem wpList_append_sl {w : World} {ops : Array Oper} {rest : List Oper} {o : Oper} {a : Act} {Q : Exit → Act → World → Prop} (hgd : o.guard = none) (s x : Operand)
    (ho : o.op = .call { callee := .builtin .append, args := #[s, x], argTypes := #[62, 62] }) (base : Nat)
    (v : Value) (n : Nat) (xs : List Value) (hs : a.eval s = v) (hown : w.ownsRow base 79 1 v n xs) (u : Value) (m : Nat) (ys : List Value) (hx : a.eval x = u) (hu : w.ownsRow 0 79 1 u m ys) (h1 : ∀ y ∈ ys, y.oneCell' = true)
    (hbytes : n + m ≤ 1000000) (hbase : base ≤ w.heap.size)
    (h : ∀ v' w', w'.ownsRow base 79 1 v' (n + m) (xs ++ ys) → w.grownBy w' v.ownBlock → wpList Tryd.prog ops Q rest (a.put o.dst v') w') : wpList Tryd.prog ops Q (o :: rest) a w := by
  refine wpList_plain hgd fun K hK => ?_
  obtain ⟨v', w', hr, h2, h3⟩ := run_append_sl w base o.type v n xs hown u m ys hu h1 hbytes hbase
  unfold Oper.wp execOp
  simp only [ho, resolve, invoke, builtin, Sem.run_bind, Sem.run_pure, Result.andThen_ok, List.map_toArray, List.map_cons, List.map_nil, hs, hx, hr]
  exact hK _ _ (h v' w' h2 h3)
/-- What stands while the texts are gone through. -/
structure Un (W0 w : World) (bm g cap : Nat) (xs : List Value) (T : List (Nat → Nat)) (key : Nat → Lit) (k : Nat) (D : DataW Unit) : Prop where
  row : w.ownsRow W0.heap.size 79 1 (.slice (some ⟨g, 0, none⟩) T.length cap) T.length xs
  ts : TsAt w W0.heap.size xs T
  bl : Below W0.heap.size W0 w
  mp : w.ownsMap Tryd.prog 34 (plainElem Tryd.prog 9) bm k D
  mb : W0.heap.size ≤ bm
  sn : Seen D key T k
theorem Un.later {W0 w w' : World} {bm g cap : Nat} {xs : List Value} {T : List (Nat → Nat)} {key : Nat → Lit} {k : Nat} {D : DataW Unit} (h : Un W0 w bm g cap xs T key k D) (hb : Below w.heap.size w w') : Un W0 w' bm g cap xs T key k D :=
  ⟨own_at h.row hb, h.ts.map fun t => t.later hb, h.bl.trans (hb.mono h.bl.size), by
    obtain ⟨es, clock, h1, h2⟩ := h.mp
    exact ⟨es, clock, (hb.block bm (Array.getElem?_eq_some_iff.1 h1).1).trans h1, h2⟩, h.mb, h.sn⟩
/-- .. behind a store into the map. -/
theorem Un.next {W0 w w' : World} {bm g cap : Nat} {xs : List Value} {T : List (Nat → Nat)} {key : Nat → Lit} {k : Nat} {D : DataW Unit} (h : Un W0 w bm g cap xs T key k D) (hg : w.grownBy w' (some bm)) (hm : w'.ownsMap Tryd.prog 34 (plainElem Tryd.prog 9) bm (k + 1) (D.put (key k) (.lit (.string (stT (T.getD k fun _ => 0)).data.toList)))) (hk : WideAt.IsKeyLit (key k)) (hsn : ∀ i, i < k → key i = key k → (stT (T.getD i fun _ => 0)).data.toList = (stT (T.getD k fun _ => 0)).data.toList) :
    Un W0 w' bm g cap xs T key (k + 1) (D.put (key k) (.lit (.string (stT (T.getD k fun _ => 0)).data.toList))) := by
  obtain ⟨es, clock, hm1, _⟩ := h.mp
  have hne : ∀ q c t, w.heap[q]? = some (.cells c t (0, 0)) → some q ≠ some bm := by
    intro q c t hq e
    cases e
    rw [hm1] at hq; cases hq
  refine ⟨⟨h.row.1, ?_⟩, h.ts.map fun t => ?_, h.bl.grown hg h.bl.size (fun q e => by cases e; exact h.mb), hm, h.mb, fun i hi => ?_⟩
  · rcases h.row.2 with ⟨e, _⟩ | ⟨q, c, cur, e1, hb', hq, r⟩
    · cases e
    · exact .inr ⟨q, c, cur, e1, hb', (hg.block q (Array.getElem?_eq_some_iff.1 hq).1 (hne _ _ _ hq)).trans hq, r⟩
  · obtain ⟨b, c, cp, e, h1, h2, h3, h4⟩ := t
    exact ⟨b, c, cp, e, h1, h2, (hg.block b (Array.getElem?_eq_some_iff.1 h3).1 (hne _ _ _ h3)).trans h3, h4⟩
  · by_cases e : key i = key k
    · rw [e, atKey_put_same (isMap_own h.mp) hk]
      by_cases e2 : i = k
      · rw [e2]
      · rw [hsn i (by omega) e]
    · rw [atKey_put_other e]
      exact h.sn i (by
        have : i ≠ k := fun e2 => e (by rw [e2])
        omega)
set_option maxHeartbeats 8000000 in
set_option maxRecDepth 100000 in
theorem clash_d {g cap : Nat} {zs : List Value} {TT : List (Nat → Nat)} {W0 wc : World} (hNp : 0 < TT.length) (hN : TT.length ≤ 300) (hb8 : Below W0.heap.size W0 wc) (ho8' : wc.ownsRow W0.heap.size 79 1 (.slice (some ⟨g, 0, none⟩) TT.length cap) TT.length zs) (hts8 : TsAt wc W0.heap.size zs TT) (hTg : ∀ i j, (TT.getD i fun _ => 0) j < 256)
    (hex : ∃ i j, i < TT.length ∧ j < TT.length ∧ Clash (TT.getD i fun _ => 0) (TT.getD j fun _ => 0)) : Calls Tryd.prog 43 #[.slice (some ⟨g, 0, none⟩) TT.length cap] wc fun e w' => e = .returned (.bool true) ∧ Below W0.heap.size W0 w' := by
  have hkx : ∀ i, ∃ kl, keyOf Tryd.prog 34 (.agg (ab 32 (dg 65 (TT.getD i fun _ => 0)))) = some kl := fun i => key_s _ (dg_lt _ _)
  obtain ⟨key, hkey⟩ : ∃ key : Nat → Lit, ∀ i, keyOf Tryd.prog 34 (.agg (ab 32 (dg 65 (TT.getD i fun _ => 0)))) = some (key i) := ⟨fun i => Classical.choose (hkx i), fun i => Classical.choose_spec (hkx i)⟩
  have hsh := fun (w : World) a cap i (hb : Bs w a 65 (TT.getD i fun _ => 0)) => refShort_d (cap := cap) hb (by omega)
  obtain ⟨ci, cj, hci, hcj, hc⟩ := hex
  have hkeq : key ci = key cj := by
    have e : ab 32 (dg 65 (TT.getD ci fun _ => 0)) = ab 32 (dg 65 (TT.getD cj fun _ => 0)) := arr_congr fun i hi => by rw [hc.1 i hi]
    have h1 := hkey ci
    rw [e, hkey cj] at h1
    exact (Option.some.inj h1).symm
  have hsne : (stT (TT.getD ci fun _ => 0)).data.toList ≠ (stT (TT.getD cj fun _ => 0)).data.toList := fun h => by
    obtain ⟨i, hi, hne⟩ := hc.2
    exact hne (stT_inj (hTg ci) (hTg cj) h i hi)
  have hcv : ∀ (w : World) (a : Option Addr) (i cap : Nat), Bs w a 65 (TT.getD i fun _ => 0) → (convert 79 9 (.slice a 65 cap)).run Tryd.prog w = .ok (.string (stT (TT.getD i fun _ => 0))) w := fun w a i cap hb => conv_f hb cap
  clear hkx hc
  have hal5 : Below wc.heap.size wc (wc.alloc (.map #[] 0)) := (Below.refl _ _).alloc (Nat.le_refl _) _
  have hmp5 := World.ownsMap_made wc Tryd.prog 34 (plainElem (H := Unit) Tryd.prog 9)
  have hU : Un W0 (wc.alloc (.map #[] 0)) wc.heap.size g cap zs TT key 0 (.map []) := ⟨own_at ho8' hal5, hts8.map (fun h => h.later hal5), blw hb8 hal5, hmp5, hb8.size, fun i hi => absurd hi (by omega)⟩
  clear ho8' hts8 hb8 hmp5 hal5
  have hmm := @run_makeMap Tryd.prog
  go_enter Tryd.func43, Tryd.ntmps43
  go_wp2_with fail
  clear hmm
  generalize wc.alloc (.map #[] 0) = w8 at hU ⊢
  generalize wc.heap.size = bm at *
  go_loopw [12] (fun v wr => ∃ (k : Nat) (D : DataW Unit), k ≤ TT.length ∧ v = .int .i64 k ∧ Un W0 wr bm g cap zs TT key k D) (fun v _ => TT.length - (intOf v).toNat)
  case atStart => exact ⟨0, _, Nat.zero_le _, rfl, hU⟩
  case round =>
    clear hU
    obtain ⟨k, D, hk, rfl, hU⟩ := hrel
    by_cases hlt : k < TT.length
    · have hcl := hU.row.cellAt k (by omega)
      obtain ⟨tb, tc, tcap, htv, _, _, _, _⟩ := hU.ts.2 k hlt
      have hzl := hU.ts.1
      rw [List.getD_eq_getElem?_getD] at htv
      have hzk : zs[k]? = some (.slice (some ⟨tb, 0, none⟩) 65 tcap) := by
        rw [List.getElem?_eq_getElem (by omega)] at htv ⊢
        exact congrArg some htv
      replace hcl : wr.cell? ⟨g, k, none⟩ = some (.slice (some ⟨tb, 0, none⟩) 65 tcap) := by rw [← hzk]; exact hcl
      obtain ⟨ta, tcap2, e2, htb⟩ := (hU.ts.2 k hlt).bs (hTg k)
      rw [List.getD_eq_getElem?_getD, hzk, Option.getD_some] at e2
      cases e2
      clear htv hzk hzl
      have hsk := hsh wr _ tcap k htb
      have hky := hkey k
      have hkl : WideAt.IsKeyLit (key k) := keyL.key hky
      obtain ⟨S, hS⟩ : ∃ S, Hid (S = stT (TT.getD k fun _ => 0)) := ⟨_, hide1 rfl⟩
      have hSs : S.size ≤ maxLen := by rw [hS.out]; exact stT_size _
      generalize dg 65 (TT.getD k fun _ => 0) = F at *
      have hzs : ∀ w : World, (zeroValue 34).run Tryd.prog w = .ok (.agg (ab 32 fun _ => 0)) w := fun w => by kernel_rfl
      go_wp2_with fail
      refine hsk.mono ?_
      rintro e w9 ⟨rfl, hb9⟩
      have hal9 : Below w9.heap.size w9 (w9.alloc (.cells (ab 32 fun _ => 0) 34)) := (Below.refl _ _).alloc (Nat.le_refl _) _
      have hr9 := (MapKept.heap_alloc w9 (.cells (ab 32 fun _ => 0) 34)).1
      have hw10 := wrt_row (c' := ab 32 F) hr9
      have hb10 : Below w9.heap.size w9 ((w9.alloc (.cells (ab 32 fun _ => 0) 34)).setRow w9.heap.size (ab 32 F)) := below_wrt hal9 hw10 (Nat.le_refl _) hal9.size
      have hr10 := hw10.row
      have hU10 := hU.later (hb9.trans (hb10.mono hb9.size))
      have htb10 := htb.later (hb9.trans (hb10.mono hb9.size))
      have hcv10 := hcv _ _ k tcap htb10
      rw [← hS.out] at hcv10
      clear hsk hal9 hw10 htb htb10 hb9 hb10
      go_upto_region 6 with (refine wpList_store_row rfl 34 (.tmp 6) (.tmp 17) rfl w9.heap.size (ab 32 F) (ab 32 fun _ => 0) 34 rfl rfl (sum_sz F) hr9 (by rw [ab_size, ab_size]) (ab_one _ _) rfl ?_)
      generalize (w9.alloc (.cells (ab 32 fun _ => 0) 34)).setRow w9.heap.size (ab 32 F) = w10 at hr10 hU10 hcv10 ⊢
      clear hr9
      generalize w9.heap.size = qd at *
      have hput : plainElem (H := Unit) Tryd.prog 9 (.string S) = some (.lit (.string S.data.toList), []) := plainElem_string Tryd.underlying9 hSs
      rcases look_s hU10.mp hky with ⟨hrun, hat⟩ | ⟨s, hrun, hat⟩
      · have hsn : ∀ i, i < k → key i = key k → (stT (TT.getD i fun _ => 0)).data.toList = S.data.toList := fun i hi e => by
          have h1 := hU10.sn i hi
          rw [e, hat .nil] at h1
          cases h1
        replace hsn := hide1 hsn
        replace hky := hide1 hky
        clear hat
        go_wp2_with (first
          | (refine wpList_load_row rfl 34 (.tmp 6) rfl qd (ab 32 F) 34 rfl Tryd.underlying34 (sum_sz F) hr10 ?_)
          | (refine wpList_mapUpdate_own (H := Unit) w10 rfl (.tmp 31) (.tmp 32) (.tmp 34) 93 rfl 34 9 keyL Tryd.underlying93 (plainElem Tryd.prog 9) bm k D rfl hU10.mp (by unfold maxLen; omega) (.agg (ab 32 F)) (.string S) (key k) rfl rfl hky.out _ [] hput ?_
             intro w11 hm11 hg11
             have hU11 := hU10.next hg11 (by rw [← hS.out]; exact hm11) hkl (by rw [← hS.out]; exact hsn.out)
             clear hm11 hg11))
        exact ⟨⟨k + 1, _, by omega, by go_num, hU11⟩, by simp [intOf]; omega⟩
      · by_cases hse : s.data.toList = S.data.toList
        · have hsn : ∀ i, i < k → key i = key k → (stT (TT.getD i fun _ => 0)).data.toList = S.data.toList := fun i hi e => by
            have h1 := hU10.sn i hi
            rw [e, hat .nil] at h1
            simp only [DataW.lit.injEq, Lit.string.injEq] at h1
            rw [← h1, hse]
          have hbe : (s.toList == S.toList) = true := by rw [ByteArray.toList_eq, ByteArray.toList_eq, hse]; simp
          replace hsn := hide1 hsn
          replace hky := hide1 hky
          replace hse := hide1 hse
          clear hat
          go_wp2_with (first
            | (refine wpList_load_row rfl 34 (.tmp 6) rfl qd (ab 32 F) 34 rfl Tryd.underlying34 (sum_sz F) hr10 ?_)
            | (refine wpList_mapUpdate_own (H := Unit) w10 rfl (.tmp 31) (.tmp 32) (.tmp 34) 93 rfl 34 9 keyL Tryd.underlying93 (plainElem Tryd.prog 9) bm k D rfl hU10.mp (by unfold maxLen; omega) (.agg (ab 32 F)) (.string S) (key k) rfl rfl hky.out _ [] hput ?_
               intro w11 hm11 hg11
               have hU11 := hU10.next hg11 (by rw [← hS.out]; exact hm11) hkl (by rw [← hS.out]; exact hsn.out)
               clear hm11 hg11))
          exact ⟨⟨k + 1, _, by omega, by go_num, hU11⟩, by simp [intOf]; omega⟩
        · have hbe : (s.toList == S.toList) = false := by
            rw [ByteArray.toList_eq, ByteArray.toList_eq]
            exact beq_eq_false_iff_ne.2 hse
          have hfin := hide1 hU10.bl
          replace hky := hide1 hky
          clear hat hse
          go_wp2_with (refine wpList_load_row rfl 34 (.tmp 6) rfl qd (ab 32 F) 34 rfl Tryd.underlying34 (sum_sz F) hr10 ?_)
          go_ret
          exact ⟨rfl, hfin.out⟩
    · obtain rfl : k = TT.length := by omega
      exfalso
      have h1 := hU.sn ci hci
      have h2 := hU.sn cj hcj
      rw [hkeq, h2] at h1
      simp only [DataW.lit.injEq, Lit.string.injEq] at h1
      exact hsne h1.symm
end Go.Proofs.YtbmhehppokcfnaaDoor

namespace Go.Proofs.YtbmhehppokcfnaaDoor
open Go.RowKit Go.Maps Sh
set_option maxHeartbeats 8000000 in
theorem only_1 {n cap m pcap : Nat} {i : Int} {la : Option Addr} {pa : Option Addr} {F : Nat → Nat} {W0 : World} (hg : Gl W0) (h : 100 < n) : Calls Tryd.prog 22 #[.slice la n cap, .int .i64 i, .agg (ab 32 F), .slice pa m pcap] W0 fun e w' => e = .returned (.bool true) ∧ Below W0.heap.size W0 w' := by
  refine s_in Tryd.func22 Tryd.ntmps22 rfl [.inl (.slice la n cap), .inl (.int .i64 i), .inl (.agg (ab 32 F)), .inl (.slice pa m pcap)] ?_
  intro β a h
  refine sym_seq ?_
  refine St.rg h [(6, .inr (0, pt 0)), (8, .inl (.bool false))] [(ab 32 F, 34)] [] [eN 0] ?_ ?_
  · exact oc (k_bx 0 (.agg (ab 32 F)) (bx_agg (P := Tryd.prog)) rfl rfl) <|
    oz (k_mv (.inr rfl) rfl) <|
    ok_nil
  clear h; intro β a w h
  refine sym_then ?_
  refine sym_seq ?_
  refine sym_seq ?_
  refine St.r0 h [(12, .inl (.bool true)), (13, .inl (.bool false))] [] ?_ ?_
  · exact oz (k_cw 9 #[] (.bool true) (fun w hw => alive_t (gl_b hg hw.below)) rfl rfl) <|
    oz (k_nt true rfl rfl) <|
    ok_nil
  clear h; intro β a w h
  refine sym_then ?_
  refine s_cf h ?_
  refine wp_skip ?_
  refine sym_then ?_
  refine sym_seq ?_
  refine St.r0 h [(14, .inl (.slice la n cap)), (15, .inl (.int .i64 ((n : Nat) : Int))), (9, .inl (.int .i64 ((n : Nat) : Int)))] [] ?_ ?_
  · exact oz (k_mv (.inl rfl) rfl) <|
    oz (k_ln (ad := la) n cap rfl rfl (fun w => len_ss _ w)) <|
    oz (k_mv (.inr rfl) rfl) <|
    ok_nil
  clear h; intro β a w h
  refine sym_then ?_
  refine sym_seq ?_
  refine sym_seq ?_
  refine St.r0 h [(16, .inl (.int .i64 ((n : Nat) : Int))), (17, .inl (.bool true)), (18, .inl (.bool true)), (22, .inl (.bool true)), (23, .inl (.bool true)), (26, .inl (.bool true)), (27, .inl (.bool true)), (31, .inl (.bool true))] [] ?_ ?_
  · exact oz (k_mv (.inl rfl) rfl) <|
    oz (k_bi (.int .i64 ((n : Nat) : Int)) (.int .i64 ((100 : Nat) : Int)) (.bool true) (gt_s (m := ((n : Nat) : Int)) (n := ((100 : Nat) : Int)) (decide_eq_true (by omega))) rfl rfl) <|
    oz (k_mv (.inl rfl) rfl) <|
    oz (k_sk rfl) <|
    oz (k_sk rfl) <|
    oz (k_sk rfl) <|
    oz (k_pt rfl rfl) <|
    oz (k_mv (.inl rfl) rfl) <|
    oz (k_sk rfl) <|
    oz (k_sk rfl) <|
    oz (k_pt rfl rfl) <|
    oz (k_mv (.inl rfl) rfl) <|
    oz (k_sk rfl) <|
    oz (k_sk rfl) <|
    oz (k_sk rfl) <|
    oz (k_pt rfl rfl) <|
    ok_nil
  clear h; intro β a w h
  refine sym_then ?_
  refine s_ct h ?_
  refine sym_seq ?_
  refine St.r0 h [(8, .inl (.bool true))] [] ?_ ?_
  · exact oz (k_mv (.inr rfl) rfl) <|
    ok_nil
  clear h; intro β a w h
  refine sym_then ?_
  refine wp_ret ?_
  refine then_ret ?_
  exact s_rt h Tryd.results22 (fun hb => ⟨rfl, hb⟩)
set_option maxHeartbeats 8000000 in
theorem only_2 {n cap m pcap : Nat} {i : Int} {la : Option Addr} {pa : Option Addr} {F : Nat → Nat} {W0 : World} (hg : Gl W0) (h1 : n ≤ 100) (h : 100 < m) : Calls Tryd.prog 22 #[.slice la n cap, .int .i64 i, .agg (ab 32 F), .slice pa m pcap] W0 fun e w' => e = .returned (.bool true) ∧ Below W0.heap.size W0 w' := by
  refine s_in Tryd.func22 Tryd.ntmps22 rfl [.inl (.slice la n cap), .inl (.int .i64 i), .inl (.agg (ab 32 F)), .inl (.slice pa m pcap)] ?_
  intro β a h
  refine sym_seq ?_
  refine St.rg h [(6, .inr (0, pt 0)), (8, .inl (.bool false))] [(ab 32 F, 34)] [] [eN 0] ?_ ?_
  · exact oc (k_bx 0 (.agg (ab 32 F)) (bx_agg (P := Tryd.prog)) rfl rfl) <|
    oz (k_mv (.inr rfl) rfl) <|
    ok_nil
  clear h; intro β a w h
  refine sym_then ?_
  refine sym_seq ?_
  refine sym_seq ?_
  refine St.r0 h [(12, .inl (.bool true)), (13, .inl (.bool false))] [] ?_ ?_
  · exact oz (k_cw 9 #[] (.bool true) (fun w hw => alive_t (gl_b hg hw.below)) rfl rfl) <|
    oz (k_nt true rfl rfl) <|
    ok_nil
  clear h; intro β a w h
  refine sym_then ?_
  refine s_cf h ?_
  refine wp_skip ?_
  refine sym_then ?_
  refine sym_seq ?_
  refine St.r0 h [(14, .inl (.slice la n cap)), (15, .inl (.int .i64 ((n : Nat) : Int))), (9, .inl (.int .i64 ((n : Nat) : Int)))] [] ?_ ?_
  · exact oz (k_mv (.inl rfl) rfl) <|
    oz (k_ln (ad := la) n cap rfl rfl (fun w => len_ss _ w)) <|
    oz (k_mv (.inr rfl) rfl) <|
    ok_nil
  clear h; intro β a w h
  refine sym_then ?_
  refine sym_seq ?_
  refine sym_seq ?_
  refine St.r0 h [(16, .inl (.int .i64 ((n : Nat) : Int))), (17, .inl (.bool false)), (18, .inl (.bool false)), (19, .inl (.slice pa m pcap)), (20, .inl (.int .i64 ((m : Nat) : Int))), (21, .inl (.bool true)), (22, .inl (.bool true)), (23, .inl (.bool true)), (26, .inl (.bool true)), (27, .inl (.bool true)), (31, .inl (.bool true))] [] ?_ ?_
  · exact oz (k_mv (.inl rfl) rfl) <|
    oz (k_bi (.int .i64 ((n : Nat) : Int)) (.int .i64 ((100 : Nat) : Int)) (.bool false) (gt_s (m := ((n : Nat) : Int)) (n := ((100 : Nat) : Int)) (decide_eq_false (by omega))) rfl rfl) <|
    oz (k_mv (.inl rfl) rfl) <|
    oz (k_mv (.inl rfl) rfl) <|
    oz (k_ln (ad := pa) m pcap rfl rfl (fun w => len_ss _ w)) <|
    oz (k_bi (.int .i64 ((m : Nat) : Int)) (.int .i64 ((100 : Nat) : Int)) (.bool true) (gt_s (m := ((m : Nat) : Int)) (n := ((100 : Nat) : Int)) (decide_eq_true (by omega))) rfl rfl) <|
    oz (k_pf rfl rfl) <|
    oz (k_mv (.inl rfl) rfl) <|
    oz (k_sk rfl) <|
    oz (k_sk rfl) <|
    oz (k_pt rfl rfl) <|
    oz (k_mv (.inl rfl) rfl) <|
    oz (k_sk rfl) <|
    oz (k_sk rfl) <|
    oz (k_sk rfl) <|
    oz (k_pt rfl rfl) <|
    ok_nil
  clear h; intro β a w h
  refine sym_then ?_
  refine s_ct h ?_
  refine sym_seq ?_
  refine St.r0 h [(8, .inl (.bool true))] [] ?_ ?_
  · exact oz (k_mv (.inr rfl) rfl) <|
    ok_nil
  clear h; intro β a w h
  refine sym_then ?_
  refine wp_ret ?_
  refine then_ret ?_
  exact s_rt h Tryd.results22 (fun hb => ⟨rfl, hb⟩)
set_option maxHeartbeats 8000000 in
theorem only_3 {n cap m pcap : Nat} {i : Int} {la : Option Addr} {pa : Option Addr} {F : Nat → Nat} {W0 : World} (hg : Gl W0) (h1 : n ≤ 100) (h2 : m ≤ 100) (h : i < 0) : Calls Tryd.prog 22 #[.slice la n cap, .int .i64 i, .agg (ab 32 F), .slice pa m pcap] W0 fun e w' => e = .returned (.bool true) ∧ Below W0.heap.size W0 w' := by
  refine s_in Tryd.func22 Tryd.ntmps22 rfl [.inl (.slice la n cap), .inl (.int .i64 i), .inl (.agg (ab 32 F)), .inl (.slice pa m pcap)] ?_
  intro β a h
  refine sym_seq ?_
  refine St.rg h [(6, .inr (0, pt 0)), (8, .inl (.bool false))] [(ab 32 F, 34)] [] [eN 0] ?_ ?_
  · exact oc (k_bx 0 (.agg (ab 32 F)) (bx_agg (P := Tryd.prog)) rfl rfl) <|
    oz (k_mv (.inr rfl) rfl) <|
    ok_nil
  clear h; intro β a w h
  refine sym_then ?_
  refine sym_seq ?_
  refine sym_seq ?_
  refine St.r0 h [(12, .inl (.bool true)), (13, .inl (.bool false))] [] ?_ ?_
  · exact oz (k_cw 9 #[] (.bool true) (fun w hw => alive_t (gl_b hg hw.below)) rfl rfl) <|
    oz (k_nt true rfl rfl) <|
    ok_nil
  clear h; intro β a w h
  refine sym_then ?_
  refine s_cf h ?_
  refine wp_skip ?_
  refine sym_then ?_
  refine sym_seq ?_
  refine St.r0 h [(14, .inl (.slice la n cap)), (15, .inl (.int .i64 ((n : Nat) : Int))), (9, .inl (.int .i64 ((n : Nat) : Int)))] [] ?_ ?_
  · exact oz (k_mv (.inl rfl) rfl) <|
    oz (k_ln (ad := la) n cap rfl rfl (fun w => len_ss _ w)) <|
    oz (k_mv (.inr rfl) rfl) <|
    ok_nil
  clear h; intro β a w h
  refine sym_then ?_
  refine sym_seq ?_
  refine sym_seq ?_
  refine St.r0 h [(16, .inl (.int .i64 ((n : Nat) : Int))), (17, .inl (.bool false)), (18, .inl (.bool false)), (19, .inl (.slice pa m pcap)), (20, .inl (.int .i64 ((m : Nat) : Int))), (21, .inl (.bool false)), (22, .inl (.bool false)), (23, .inl (.bool false)), (24, .inl (.int .i64 i)), (25, .inl (.bool true)), (26, .inl (.bool true)), (27, .inl (.bool true)), (31, .inl (.bool true))] [] ?_ ?_
  · exact oz (k_mv (.inl rfl) rfl) <|
    oz (k_bi (.int .i64 ((n : Nat) : Int)) (.int .i64 ((100 : Nat) : Int)) (.bool false) (gt_s (m := ((n : Nat) : Int)) (n := ((100 : Nat) : Int)) (decide_eq_false (by omega))) rfl rfl) <|
    oz (k_mv (.inl rfl) rfl) <|
    oz (k_mv (.inl rfl) rfl) <|
    oz (k_ln (ad := pa) m pcap rfl rfl (fun w => len_ss _ w)) <|
    oz (k_bi (.int .i64 ((m : Nat) : Int)) (.int .i64 ((100 : Nat) : Int)) (.bool false) (gt_s (m := ((m : Nat) : Int)) (n := ((100 : Nat) : Int)) (decide_eq_false (by omega))) rfl rfl) <|
    oz (k_pf rfl rfl) <|
    oz (k_mv (.inl rfl) rfl) <|
    oz (k_mv (.inl rfl) rfl) <|
    oz (k_bi (.int .i64 i) (.int .i64 ((0 : Nat) : Int)) (.bool true) (lt_i (m := i) (n := ((0 : Nat) : Int)) (decide_eq_true (by omega))) rfl rfl) <|
    oz (k_pf rfl rfl) <|
    oz (k_mv (.inl rfl) rfl) <|
    oz (k_sk rfl) <|
    oz (k_sk rfl) <|
    oz (k_sk rfl) <|
    oz (k_pt rfl rfl) <|
    ok_nil
  clear h; intro β a w h
  refine sym_then ?_
  refine s_ct h ?_
  refine sym_seq ?_
  refine St.r0 h [(8, .inl (.bool true))] [] ?_ ?_
  · exact oz (k_mv (.inr rfl) rfl) <|
    ok_nil
  clear h; intro β a w h
  refine sym_then ?_
  refine wp_ret ?_
  refine then_ret ?_
  exact s_rt h Tryd.results22 (fun hb => ⟨rfl, hb⟩)
set_option maxHeartbeats 8000000 in
theorem only_4 {n cap m pcap : Nat} {i : Int} {la : Option Addr} {pa : Option Addr} {F : Nat → Nat} {W0 : World} (hg : Gl W0) (h1 : n ≤ 100) (h2 : m ≤ 100) (h3 : 0 ≤ i) (h : (n : Int) ≤ i) : Calls Tryd.prog 22 #[.slice la n cap, .int .i64 i, .agg (ab 32 F), .slice pa m pcap] W0 fun e w' => e = .returned (.bool true) ∧ Below W0.heap.size W0 w' := by
  refine s_in Tryd.func22 Tryd.ntmps22 rfl [.inl (.slice la n cap), .inl (.int .i64 i), .inl (.agg (ab 32 F)), .inl (.slice pa m pcap)] ?_
  intro β a h
  refine sym_seq ?_
  refine St.rg h [(6, .inr (0, pt 0)), (8, .inl (.bool false))] [(ab 32 F, 34)] [] [eN 0] ?_ ?_
  · exact oc (k_bx 0 (.agg (ab 32 F)) (bx_agg (P := Tryd.prog)) rfl rfl) <|
    oz (k_mv (.inr rfl) rfl) <|
    ok_nil
  clear h; intro β a w h
  refine sym_then ?_
  refine sym_seq ?_
  refine sym_seq ?_
  refine St.r0 h [(12, .inl (.bool true)), (13, .inl (.bool false))] [] ?_ ?_
  · exact oz (k_cw 9 #[] (.bool true) (fun w hw => alive_t (gl_b hg hw.below)) rfl rfl) <|
    oz (k_nt true rfl rfl) <|
    ok_nil
  clear h; intro β a w h
  refine sym_then ?_
  refine s_cf h ?_
  refine wp_skip ?_
  refine sym_then ?_
  refine sym_seq ?_
  refine St.r0 h [(14, .inl (.slice la n cap)), (15, .inl (.int .i64 ((n : Nat) : Int))), (9, .inl (.int .i64 ((n : Nat) : Int)))] [] ?_ ?_
  · exact oz (k_mv (.inl rfl) rfl) <|
    oz (k_ln (ad := la) n cap rfl rfl (fun w => len_ss _ w)) <|
    oz (k_mv (.inr rfl) rfl) <|
    ok_nil
  clear h; intro β a w h
  refine sym_then ?_
  refine sym_seq ?_
  refine sym_seq ?_
  refine St.r0 h [(16, .inl (.int .i64 ((n : Nat) : Int))), (17, .inl (.bool false)), (18, .inl (.bool false)), (19, .inl (.slice pa m pcap)), (20, .inl (.int .i64 ((m : Nat) : Int))), (21, .inl (.bool false)), (22, .inl (.bool false)), (23, .inl (.bool false)), (24, .inl (.int .i64 i)), (25, .inl (.bool false)), (26, .inl (.bool false)), (27, .inl (.bool false)), (28, .inl (.int .i64 i)), (29, .inl (.int .i64 ((n : Nat) : Int))), (30, .inl (.bool true)), (31, .inl (.bool true))] [] ?_ ?_
  · exact oz (k_mv (.inl rfl) rfl) <|
    oz (k_bi (.int .i64 ((n : Nat) : Int)) (.int .i64 ((100 : Nat) : Int)) (.bool false) (gt_s (m := ((n : Nat) : Int)) (n := ((100 : Nat) : Int)) (decide_eq_false (by omega))) rfl rfl) <|
    oz (k_mv (.inl rfl) rfl) <|
    oz (k_mv (.inl rfl) rfl) <|
    oz (k_ln (ad := pa) m pcap rfl rfl (fun w => len_ss _ w)) <|
    oz (k_bi (.int .i64 ((m : Nat) : Int)) (.int .i64 ((100 : Nat) : Int)) (.bool false) (gt_s (m := ((m : Nat) : Int)) (n := ((100 : Nat) : Int)) (decide_eq_false (by omega))) rfl rfl) <|
    oz (k_pf rfl rfl) <|
    oz (k_mv (.inl rfl) rfl) <|
    oz (k_mv (.inl rfl) rfl) <|
    oz (k_bi (.int .i64 i) (.int .i64 ((0 : Nat) : Int)) (.bool false) (lt_i (m := i) (n := ((0 : Nat) : Int)) (decide_eq_false (by omega))) rfl rfl) <|
    oz (k_pf rfl rfl) <|
    oz (k_mv (.inl rfl) rfl) <|
    oz (k_mv (.inl rfl) rfl) <|
    oz (k_mv (.inl rfl) rfl) <|
    oz (k_bi (.int .i64 i) (.int .i64 ((n : Nat) : Int)) (.bool true) (ge_i (m := i) (n := ((n : Nat) : Int)) (decide_eq_true (by omega))) rfl rfl) <|
    oz (k_pf rfl rfl) <|
    ok_nil
  clear h; intro β a w h
  refine sym_then ?_
  refine s_ct h ?_
  refine sym_seq ?_
  refine St.r0 h [(8, .inl (.bool true))] [] ?_ ?_
  · exact oz (k_mv (.inr rfl) rfl) <|
    ok_nil
  clear h; intro β a w h
  refine sym_then ?_
  refine wp_ret ?_
  refine then_ret ?_
  exact s_rt h Tryd.results22 (fun hb => ⟨rfl, hb⟩)
set_option maxHeartbeats 8000000 in
theorem only_5 {b off n cap i m pcap : Nat} {pa : Option Addr} {F RT : Nat → Nat} {W0 : World} (hg : Gl W0) (h1 : n ≤ 100) (h2 : m ≤ 100) (hi : i < n) (hrt : ∀ w, KW (wd W0) w → Calls Tryd.prog 15 #[.slice (some ⟨b, off, none⟩) n cap] w fun e w' => e = .returned (.agg (ab 32 RT)) ∧ Below w.heap.size w w') (hho : ∀ w, KW (wd W0) w → Calls Tryd.prog 14 #[.agg (ab 32 F), .int .i64 ((i : Nat) : Int), .int .i64 ((n : Nat) : Int), .slice pa m pcap, .agg (ab 32 RT)] w fun e w' => e = .returned (.bool false) ∧ Below w.heap.size w w') : Calls Tryd.prog 22 #[.slice (some ⟨b, off, none⟩) n cap, .int .i64 ((i : Nat) : Int), .agg (ab 32 F), .slice pa m pcap] W0 fun e w' => e = .returned (.bool true) ∧ Below W0.heap.size W0 w' := by
  refine s_in Tryd.func22 Tryd.ntmps22 rfl [.inl (.slice (some ⟨b, off, none⟩) n cap), .inl (.int .i64 ((i : Nat) : Int)), .inl (.agg (ab 32 F)), .inl (.slice pa m pcap)] ?_
  intro β a h
  refine sym_seq ?_
  refine St.rg h [(6, .inr (0, pt 0)), (8, .inl (.bool false))] [(ab 32 F, 34)] [] [eN 0] ?_ ?_
  · exact oc (k_bx 0 (.agg (ab 32 F)) (bx_agg (P := Tryd.prog)) rfl rfl) <|
    oz (k_mv (.inr rfl) rfl) <|
    ok_nil
  clear h; intro β a w h
  refine sym_then ?_
  refine sym_seq ?_
  refine sym_seq ?_
  refine St.r0 h [(12, .inl (.bool true)), (13, .inl (.bool false))] [] ?_ ?_
  · exact oz (k_cw 9 #[] (.bool true) (fun w hw => alive_t (gl_b hg hw.below)) rfl rfl) <|
    oz (k_nt true rfl rfl) <|
    ok_nil
  clear h; intro β a w h
  refine sym_then ?_
  refine s_cf h ?_
  refine wp_skip ?_
  refine sym_then ?_
  refine sym_seq ?_
  refine St.r0 h [(14, .inl (.slice (some ⟨b, off, none⟩) n cap)), (15, .inl (.int .i64 ((n : Nat) : Int))), (9, .inl (.int .i64 ((n : Nat) : Int)))] [] ?_ ?_
  · exact oz (k_mv (.inl rfl) rfl) <|
    oz (k_ln (ad := (some ⟨b, off, none⟩)) n cap rfl rfl (fun w => len_ss _ w)) <|
    oz (k_mv (.inr rfl) rfl) <|
    ok_nil
  clear h; intro β a w h
  refine sym_then ?_
  refine sym_seq ?_
  refine sym_seq ?_
  refine St.r0 h [(16, .inl (.int .i64 ((n : Nat) : Int))), (17, .inl (.bool false)), (18, .inl (.bool false)), (19, .inl (.slice pa m pcap)), (20, .inl (.int .i64 ((m : Nat) : Int))), (21, .inl (.bool false)), (22, .inl (.bool false)), (23, .inl (.bool false)), (24, .inl (.int .i64 ((i : Nat) : Int))), (25, .inl (.bool false)), (26, .inl (.bool false)), (27, .inl (.bool false)), (28, .inl (.int .i64 ((i : Nat) : Int))), (29, .inl (.int .i64 ((n : Nat) : Int))), (30, .inl (.bool false)), (31, .inl (.bool false))] [] ?_ ?_
  · exact oz (k_mv (.inl rfl) rfl) <|
    oz (k_bi (.int .i64 ((n : Nat) : Int)) (.int .i64 ((100 : Nat) : Int)) (.bool false) (gt_s (m := ((n : Nat) : Int)) (n := ((100 : Nat) : Int)) (decide_eq_false (by omega))) rfl rfl) <|
    oz (k_mv (.inl rfl) rfl) <|
    oz (k_mv (.inl rfl) rfl) <|
    oz (k_ln (ad := pa) m pcap rfl rfl (fun w => len_ss _ w)) <|
    oz (k_bi (.int .i64 ((m : Nat) : Int)) (.int .i64 ((100 : Nat) : Int)) (.bool false) (gt_s (m := ((m : Nat) : Int)) (n := ((100 : Nat) : Int)) (decide_eq_false (by omega))) rfl rfl) <|
    oz (k_pf rfl rfl) <|
    oz (k_mv (.inl rfl) rfl) <|
    oz (k_mv (.inl rfl) rfl) <|
    oz (k_bi (.int .i64 ((i : Nat) : Int)) (.int .i64 ((0 : Nat) : Int)) (.bool false) (lt_i (m := ((i : Nat) : Int)) (n := ((0 : Nat) : Int)) (decide_eq_false (by omega))) rfl rfl) <|
    oz (k_pf rfl rfl) <|
    oz (k_mv (.inl rfl) rfl) <|
    oz (k_mv (.inl rfl) rfl) <|
    oz (k_mv (.inl rfl) rfl) <|
    oz (k_bi (.int .i64 ((i : Nat) : Int)) (.int .i64 ((n : Nat) : Int)) (.bool false) (ge_i (m := ((i : Nat) : Int)) (n := ((n : Nat) : Int)) (decide_eq_false (by omega))) rfl rfl) <|
    oz (k_pf rfl rfl) <|
    ok_nil
  clear h; intro β a w h
  refine sym_then ?_
  refine s_cf h ?_
  refine wp_skip ?_
  refine sym_then ?_
  refine sym_seq ?_
  refine sym_seq ?_
  refine St.r0 h [(32, .inl (.agg (ab 32 F))), (33, .inl (.int .i64 ((i : Nat) : Int))), (34, .inl (.int .i64 ((n : Nat) : Int))), (35, .inl (.slice pa m pcap)), (36, .inl (.slice (some ⟨b, off, none⟩) n cap)), (37, .inl (.agg (ab 32 RT))), (38, .inl (.bool false)), (39, .inl (.bool true)), (40, .inl (.bool true)), (47, .inl (.bool true))] [eR 0] ?_ ?_
  · exact oc (k_ld 0 0 (.agg (ab 32 F)) (c := ab 32 F) (ldS (F := F) 34) rfl rfl) <|
    oz (k_mv (.inl rfl) rfl) <|
    oz (k_mv (.inl rfl) rfl) <|
    oz (k_mv (.inl rfl) rfl) <|
    oz (k_mv (.inl rfl) rfl) <|
    oz (k_cw 15 #[.slice (some ⟨b, off, none⟩) n cap] (.agg (ab 32 RT)) (fun w hw => hrt w hw) rfl rfl) <|
    oz (k_cw 14 #[.agg (ab 32 F), .int .i64 ((i : Nat) : Int), .int .i64 ((n : Nat) : Int), .slice pa m pcap, .agg (ab 32 RT)] (.bool false) (fun w hw => hho w hw) rfl rfl) <|
    oz (k_nt false rfl rfl) <|
    oz (k_mv (.inl rfl) rfl) <|
    oz (k_sk rfl) <|
    oz (k_sk rfl) <|
    oz (k_sk rfl) <|
    oz (k_sk rfl) <|
    oz (k_sk rfl) <|
    oz (k_sk rfl) <|
    oz (k_pt rfl rfl) <|
    ok_nil
  clear h; intro β a w h
  refine sym_then ?_
  refine s_ct h ?_
  refine sym_seq ?_
  refine St.r0 h [(8, .inl (.bool true))] [] ?_ ?_
  · exact oz (k_mv (.inr rfl) rfl) <|
    ok_nil
  clear h; intro β a w h
  refine sym_then ?_
  refine wp_ret ?_
  refine then_ret ?_
  exact s_rt h Tryd.results22 (fun hb => ⟨rfl, hb⟩)
set_option maxHeartbeats 8000000 in
theorem only_6 {b off n cap i m pcap : Nat} {pa : Option Addr} {F RT G : Nat → Nat} {W0 : World} (hg : Gl W0) (h1 : n ≤ 100) (h2 : m ≤ 100) (hi : i < n) (hb : eqD F G = true) (hrt : ∀ w, KW (wd W0) w → Calls Tryd.prog 15 #[.slice (some ⟨b, off, none⟩) n cap] w fun e w' => e = .returned (.agg (ab 32 RT)) ∧ Below w.heap.size w w') (hho : ∀ w, KW (wd W0) w → Calls Tryd.prog 14 #[.agg (ab 32 F), .int .i64 ((i : Nat) : Int), .int .i64 ((n : Nat) : Int), .slice pa m pcap, .agg (ab 32 RT)] w fun e w' => e = .returned (.bool true) ∧ Below w.heap.size w w') (hld : ∀ w, KW (wd W0) w → (Instr.loadAt 34 (.pointer (some ⟨b, off + 32 * i, none⟩))).run Tryd.prog w = .ok (.agg (ab 32 G)) w) : Calls Tryd.prog 22 #[.slice (some ⟨b, off, none⟩) n cap, .int .i64 ((i : Nat) : Int), .agg (ab 32 F), .slice pa m pcap] W0 fun e w' => e = .returned (.bool true) ∧ Below W0.heap.size W0 w' := by
  refine s_in Tryd.func22 Tryd.ntmps22 rfl [.inl (.slice (some ⟨b, off, none⟩) n cap), .inl (.int .i64 ((i : Nat) : Int)), .inl (.agg (ab 32 F)), .inl (.slice pa m pcap)] ?_
  intro β a h
  refine sym_seq ?_
  refine St.rg h [(6, .inr (0, pt 0)), (8, .inl (.bool false))] [(ab 32 F, 34)] [] [eN 0] ?_ ?_
  · exact oc (k_bx 0 (.agg (ab 32 F)) (bx_agg (P := Tryd.prog)) rfl rfl) <|
    oz (k_mv (.inr rfl) rfl) <|
    ok_nil
  clear h; intro β a w h
  refine sym_then ?_
  refine sym_seq ?_
  refine sym_seq ?_
  refine St.r0 h [(12, .inl (.bool true)), (13, .inl (.bool false))] [] ?_ ?_
  · exact oz (k_cw 9 #[] (.bool true) (fun w hw => alive_t (gl_b hg hw.below)) rfl rfl) <|
    oz (k_nt true rfl rfl) <|
    ok_nil
  clear h; intro β a w h
  refine sym_then ?_
  refine s_cf h ?_
  refine wp_skip ?_
  refine sym_then ?_
  refine sym_seq ?_
  refine St.r0 h [(14, .inl (.slice (some ⟨b, off, none⟩) n cap)), (15, .inl (.int .i64 ((n : Nat) : Int))), (9, .inl (.int .i64 ((n : Nat) : Int)))] [] ?_ ?_
  · exact oz (k_mv (.inl rfl) rfl) <|
    oz (k_ln (ad := (some ⟨b, off, none⟩)) n cap rfl rfl (fun w => len_ss _ w)) <|
    oz (k_mv (.inr rfl) rfl) <|
    ok_nil
  clear h; intro β a w h
  refine sym_then ?_
  refine sym_seq ?_
  refine sym_seq ?_
  refine St.r0 h [(16, .inl (.int .i64 ((n : Nat) : Int))), (17, .inl (.bool false)), (18, .inl (.bool false)), (19, .inl (.slice pa m pcap)), (20, .inl (.int .i64 ((m : Nat) : Int))), (21, .inl (.bool false)), (22, .inl (.bool false)), (23, .inl (.bool false)), (24, .inl (.int .i64 ((i : Nat) : Int))), (25, .inl (.bool false)), (26, .inl (.bool false)), (27, .inl (.bool false)), (28, .inl (.int .i64 ((i : Nat) : Int))), (29, .inl (.int .i64 ((n : Nat) : Int))), (30, .inl (.bool false)), (31, .inl (.bool false))] [] ?_ ?_
  · exact oz (k_mv (.inl rfl) rfl) <|
    oz (k_bi (.int .i64 ((n : Nat) : Int)) (.int .i64 ((100 : Nat) : Int)) (.bool false) (gt_s (m := ((n : Nat) : Int)) (n := ((100 : Nat) : Int)) (decide_eq_false (by omega))) rfl rfl) <|
    oz (k_mv (.inl rfl) rfl) <|
    oz (k_mv (.inl rfl) rfl) <|
    oz (k_ln (ad := pa) m pcap rfl rfl (fun w => len_ss _ w)) <|
    oz (k_bi (.int .i64 ((m : Nat) : Int)) (.int .i64 ((100 : Nat) : Int)) (.bool false) (gt_s (m := ((m : Nat) : Int)) (n := ((100 : Nat) : Int)) (decide_eq_false (by omega))) rfl rfl) <|
    oz (k_pf rfl rfl) <|
    oz (k_mv (.inl rfl) rfl) <|
    oz (k_mv (.inl rfl) rfl) <|
    oz (k_bi (.int .i64 ((i : Nat) : Int)) (.int .i64 ((0 : Nat) : Int)) (.bool false) (lt_i (m := ((i : Nat) : Int)) (n := ((0 : Nat) : Int)) (decide_eq_false (by omega))) rfl rfl) <|
    oz (k_pf rfl rfl) <|
    oz (k_mv (.inl rfl) rfl) <|
    oz (k_mv (.inl rfl) rfl) <|
    oz (k_mv (.inl rfl) rfl) <|
    oz (k_bi (.int .i64 ((i : Nat) : Int)) (.int .i64 ((n : Nat) : Int)) (.bool false) (ge_i (m := ((i : Nat) : Int)) (n := ((n : Nat) : Int)) (decide_eq_false (by omega))) rfl rfl) <|
    oz (k_pf rfl rfl) <|
    ok_nil
  clear h; intro β a w h
  refine sym_then ?_
  refine s_cf h ?_
  refine wp_skip ?_
  refine sym_then ?_
  refine sym_seq ?_
  refine sym_seq ?_
  refine St.r0 h [(32, .inl (.agg (ab 32 F))), (33, .inl (.int .i64 ((i : Nat) : Int))), (34, .inl (.int .i64 ((n : Nat) : Int))), (35, .inl (.slice pa m pcap)), (36, .inl (.slice (some ⟨b, off, none⟩) n cap)), (37, .inl (.agg (ab 32 RT))), (38, .inl (.bool true)), (39, .inl (.bool false)), (40, .inl (.bool false)), (41, .inl (.agg (ab 32 F))), (42, .inl (.slice (some ⟨b, off, none⟩) n cap)), (43, .inl (.int .i64 ((i : Nat) : Int))), (44, .inl (.pointer (some ⟨b, off + 32 * i, none⟩))), (45, .inl (.agg (ab 32 G))), (46, .inl (.bool true)), (47, .inl (.bool true))] [eR 0, nn, nn, nn, nn, nn, nn, nn, nn, eR 0] ?_ ?_
  · exact oc (k_ld 0 0 (.agg (ab 32 F)) (c := ab 32 F) (ldS (F := F) 34) rfl rfl) <|
    oc (k_mv (.inl rfl) rfl) <|
    oc (k_mv (.inl rfl) rfl) <|
    oc (k_mv (.inl rfl) rfl) <|
    oc (k_mv (.inl rfl) rfl) <|
    oc (k_cw 15 #[.slice (some ⟨b, off, none⟩) n cap] (.agg (ab 32 RT)) (fun w hw => hrt w hw) rfl rfl) <|
    oc (k_cw 14 #[.agg (ab 32 F), .int .i64 ((i : Nat) : Int), .int .i64 ((n : Nat) : Int), .slice pa m pcap, .agg (ab 32 RT)] (.bool true) (fun w hw => hho w hw) rfl rfl) <|
    oc (k_nt true rfl rfl) <|
    oc (k_mv (.inl rfl) rfl) <|
    oc (k_ld 0 0 (.agg (ab 32 F)) (c := ab 32 F) (ldS (F := F) 34) rfl rfl) <|
    oz (k_mv (.inl rfl) rfl) <|
    oz (k_mv (.inl rfl) rfl) <|
    oz (k_is (.slice (some ⟨b, off, none⟩) n cap) (.int .i64 ((i : Nat) : Int)) (.pointer (some ⟨b, off + 32 * i, none⟩)) (fun w => ix_ss (i := i) (by omega) w) rfl rfl) <|
    oz (k_lf (.pointer (some ⟨b, off + 32 * i, none⟩)) (.agg (ab 32 G)) (fun w hw => hld w hw) rfl rfl) <|
    oz (k_bi (.agg (ab 32 F)) (.agg (ab 32 G)) (.bool true) (eqS_v hb) rfl rfl) <|
    oz (k_pf rfl rfl) <|
    ok_nil
  clear h; intro β a w h
  refine sym_then ?_
  refine s_ct h ?_
  refine sym_seq ?_
  refine St.r0 h [(8, .inl (.bool true))] [] ?_ ?_
  · exact oz (k_mv (.inr rfl) rfl) <|
    ok_nil
  clear h; intro β a w h
  refine sym_then ?_
  refine wp_ret ?_
  refine then_ret ?_
  exact s_rt h Tryd.results22 (fun hb => ⟨rfl, hb⟩)
end Go.Proofs.YtbmhehppokcfnaaDoor

namespace Go.Proofs.YtbmhehppokcfnaaDoor
open Go.RowKit Go.Maps Sh
set_option maxHeartbeats 16000000 in
set_option maxRecDepth 100000 in
theorem only_7 {b off n cap i m pcap : Nat} {pa : Option Addr} {F RT G C : Nat → Nat} {T1 T2 : List (Nat → Nat)} {W0 : World} (hg : Gl W0) (h1 : n ≤ 100) (h2 : m ≤ 100) (hi : i < n) (hb : eqD F G = false)
    (hrt : ∀ w, KW (wd W0) w → Calls Tryd.prog 15 #[.slice (some ⟨b, off, none⟩) n cap] w fun e w' => e = .returned (.agg (ab 32 RT)) ∧ Below w.heap.size w w')
    (hho : ∀ w, KW (wd W0) w → Calls Tryd.prog 14 #[.agg (ab 32 F), .int .i64 ((i : Nat) : Int), .int .i64 ((n : Nat) : Int), .slice pa m pcap, .agg (ab 32 RT)] w fun e w' => e = .returned (.bool true) ∧ Below w.heap.size w w')
    (hld : ∀ w, KW (wd W0) w → (Instr.loadAt 34 (.pointer (some ⟨b, off + 32 * i, none⟩))).run Tryd.prog w = .ok (.agg (ab 32 G)) w)
    (hln : ∀ w, Calls Tryd.prog 32 #[.int .i64 ((i : Nat) : Int), .int .i64 ((n : Nat) : Int)] w fun e w' => e = .returned (.int .i64 ((m : Nat) : Int)) ∧ Below w.heap.size w w')
    (hrc : ∀ w, Below W0.heap.size W0 w → Calls Tryd.prog 33 #[.agg (ab 32 F), .int .i64 ((i : Nat) : Int), .int .i64 ((n : Nat) : Int), .slice pa m pcap] w fun e w' => ∃ tv, e = .returned (.tuple #[.agg (ab 32 C), tv]) ∧ TsV w.heap.size T1 tv w' ∧ Below w.heap.size w w')
    (htx : ∀ w, Below W0.heap.size W0 w → Calls Tryd.prog 44 #[.slice (some ⟨b, off, none⟩) n cap] w fun e w' => ∃ r, e = .returned r ∧ TsO w T2 r w')
    (hT1 : T1.length ≤ 100) (hT2 : T2.length ≤ 100) (hT0 : 0 < T1.length) (hTg : ∀ i j, ((T1 ++ T2).getD i fun _ => 0) j < 256) (hex : ∃ i j, i < (T1 ++ T2).length ∧ j < (T1 ++ T2).length ∧ Clash ((T1 ++ T2).getD i fun _ => 0) ((T1 ++ T2).getD j fun _ => 0)) : Calls Tryd.prog 22 #[.slice (some ⟨b, off, none⟩) n cap, .int .i64 ((i : Nat) : Int), .agg (ab 32 F), .slice pa m pcap] W0 fun e w' => e = .returned (.bool true) ∧ Below W0.heap.size W0 w' := by
  refine s_in Tryd.func22 Tryd.ntmps22 rfl [.inl (.slice (some ⟨b, off, none⟩) n cap), .inl (.int .i64 ((i : Nat) : Int)), .inl (.agg (ab 32 F)), .inl (.slice pa m pcap)] ?_
  intro β a h
  refine sym_seq ?_
  refine St.rg h [(6, .inr (0, pt 0)), (8, .inl (.bool false))] [(ab 32 F, 34)] [] [eN 0] ?_ ?_
  · exact oc (k_bx 0 (.agg (ab 32 F)) (bx_agg (P := Tryd.prog)) rfl rfl) <|
    oz (k_mv (.inr rfl) rfl) <|
    ok_nil
  clear h; intro β a w h
  refine sym_then ?_
  refine sym_seq ?_
  refine sym_seq ?_
  refine St.r0 h [(12, .inl (.bool true)), (13, .inl (.bool false))] [] ?_ ?_
  · exact oz (k_cw 9 #[] (.bool true) (fun w hw => alive_t (gl_b hg hw.below)) rfl rfl) <|
    oz (k_nt true rfl rfl) <|
    ok_nil
  clear h; intro β a w h
  refine sym_then ?_
  refine s_cf h ?_
  refine wp_skip ?_
  refine sym_then ?_
  refine sym_seq ?_
  refine St.r0 h [(14, .inl (.slice (some ⟨b, off, none⟩) n cap)), (15, .inl (.int .i64 ((n : Nat) : Int))), (9, .inl (.int .i64 ((n : Nat) : Int)))] [] ?_ ?_
  · exact oz (k_mv (.inl rfl) rfl) <|
    oz (k_ln (ad := (some ⟨b, off, none⟩)) n cap rfl rfl (fun w => len_ss _ w)) <|
    oz (k_mv (.inr rfl) rfl) <|
    ok_nil
  clear h; intro β a w h
  refine sym_then ?_
  refine sym_seq ?_
  refine sym_seq ?_
  refine St.r0 h [(16, .inl (.int .i64 ((n : Nat) : Int))), (17, .inl (.bool false)), (18, .inl (.bool false)), (19, .inl (.slice pa m pcap)), (20, .inl (.int .i64 ((m : Nat) : Int))), (21, .inl (.bool false)), (22, .inl (.bool false)), (23, .inl (.bool false)), (24, .inl (.int .i64 ((i : Nat) : Int))), (25, .inl (.bool false)), (26, .inl (.bool false)), (27, .inl (.bool false)), (28, .inl (.int .i64 ((i : Nat) : Int))), (29, .inl (.int .i64 ((n : Nat) : Int))), (30, .inl (.bool false)), (31, .inl (.bool false))] [] ?_ ?_
  · exact oz (k_mv (.inl rfl) rfl) <|
    oz (k_bi (.int .i64 ((n : Nat) : Int)) (.int .i64 ((100 : Nat) : Int)) (.bool false) (gt_s (m := ((n : Nat) : Int)) (n := ((100 : Nat) : Int)) (decide_eq_false (by omega))) rfl rfl) <|
    oz (k_mv (.inl rfl) rfl) <|
    oz (k_mv (.inl rfl) rfl) <|
    oz (k_ln (ad := pa) m pcap rfl rfl (fun w => len_ss _ w)) <|
    oz (k_bi (.int .i64 ((m : Nat) : Int)) (.int .i64 ((100 : Nat) : Int)) (.bool false) (gt_s (m := ((m : Nat) : Int)) (n := ((100 : Nat) : Int)) (decide_eq_false (by omega))) rfl rfl) <|
    oz (k_pf rfl rfl) <|
    oz (k_mv (.inl rfl) rfl) <|
    oz (k_mv (.inl rfl) rfl) <|
    oz (k_bi (.int .i64 ((i : Nat) : Int)) (.int .i64 ((0 : Nat) : Int)) (.bool false) (lt_i (m := ((i : Nat) : Int)) (n := ((0 : Nat) : Int)) (decide_eq_false (by omega))) rfl rfl) <|
    oz (k_pf rfl rfl) <|
    oz (k_mv (.inl rfl) rfl) <|
    oz (k_mv (.inl rfl) rfl) <|
    oz (k_mv (.inl rfl) rfl) <|
    oz (k_bi (.int .i64 ((i : Nat) : Int)) (.int .i64 ((n : Nat) : Int)) (.bool false) (ge_i (m := ((i : Nat) : Int)) (n := ((n : Nat) : Int)) (decide_eq_false (by omega))) rfl rfl) <|
    oz (k_pf rfl rfl) <|
    ok_nil
  clear h; intro β a w h
  refine sym_then ?_
  refine s_cf h ?_
  refine wp_skip ?_
  refine sym_then ?_
  refine sym_seq ?_
  refine sym_seq ?_
  refine St.r0 h [(32, .inl (.agg (ab 32 F))), (33, .inl (.int .i64 ((i : Nat) : Int))), (34, .inl (.int .i64 ((n : Nat) : Int))), (35, .inl (.slice pa m pcap)), (36, .inl (.slice (some ⟨b, off, none⟩) n cap)), (37, .inl (.agg (ab 32 RT))), (38, .inl (.bool true)), (39, .inl (.bool false)), (40, .inl (.bool false)), (41, .inl (.agg (ab 32 F))), (42, .inl (.slice (some ⟨b, off, none⟩) n cap)), (43, .inl (.int .i64 ((i : Nat) : Int))), (44, .inl (.pointer (some ⟨b, off + 32 * i, none⟩))), (45, .inl (.agg (ab 32 G))), (46, .inl (.bool false)), (47, .inl (.bool false))] [eR 0, nn, nn, nn, nn, nn, nn, nn, nn, eR 0] ?_ ?_
  · exact oc (k_ld 0 0 (.agg (ab 32 F)) (c := ab 32 F) (ldS (F := F) 34) rfl rfl) <|
    oc (k_mv (.inl rfl) rfl) <|
    oc (k_mv (.inl rfl) rfl) <|
    oc (k_mv (.inl rfl) rfl) <|
    oc (k_mv (.inl rfl) rfl) <|
    oc (k_cw 15 #[.slice (some ⟨b, off, none⟩) n cap] (.agg (ab 32 RT)) (fun w hw => hrt w hw) rfl rfl) <|
    oc (k_cw 14 #[.agg (ab 32 F), .int .i64 ((i : Nat) : Int), .int .i64 ((n : Nat) : Int), .slice pa m pcap, .agg (ab 32 RT)] (.bool true) (fun w hw => hho w hw) rfl rfl) <|
    oc (k_nt true rfl rfl) <|
    oc (k_mv (.inl rfl) rfl) <|
    oc (k_ld 0 0 (.agg (ab 32 F)) (c := ab 32 F) (ldS (F := F) 34) rfl rfl) <|
    oz (k_mv (.inl rfl) rfl) <|
    oz (k_mv (.inl rfl) rfl) <|
    oz (k_is (.slice (some ⟨b, off, none⟩) n cap) (.int .i64 ((i : Nat) : Int)) (.pointer (some ⟨b, off + 32 * i, none⟩)) (fun w => ix_ss (i := i) (by omega) w) rfl rfl) <|
    oz (k_lf (.pointer (some ⟨b, off + 32 * i, none⟩)) (.agg (ab 32 G)) (fun w hw => hld w hw) rfl rfl) <|
    oz (k_bi (.agg (ab 32 F)) (.agg (ab 32 G)) (.bool false) (eqS_v hb) rfl rfl) <|
    oz (k_pf rfl rfl) <|
    ok_nil
  clear h; intro β a w h
  refine sym_then ?_
  refine s_cf h ?_
  refine wp_skip ?_
  refine sym_then ?_
  refine sym_seq ?_
  refine sym_seq ?_
  refine St.r0 h [(48, .inl (.slice pa m pcap)), (49, .inl (.int .i64 ((m : Nat) : Int))), (50, .inl (.int .i64 ((i : Nat) : Int))), (51, .inl (.int .i64 ((n : Nat) : Int))), (52, .inl (.int .i64 ((m : Nat) : Int))), (53, .inl (.bool false))] [] ?_ ?_
  · exact oz (k_mv (.inl rfl) rfl) <|
    oz (k_ln (ad := pa) m pcap rfl rfl (fun w => len_ss _ w)) <|
    oz (k_mv (.inl rfl) rfl) <|
    oz (k_mv (.inl rfl) rfl) <|
    oz (k_ca 32 #[.int .i64 ((i : Nat) : Int), .int .i64 ((n : Nat) : Int)] (.int .i64 ((m : Nat) : Int)) (fun w => hln w) rfl rfl) <|
    oz (k_bi (.int .i64 ((m : Nat) : Int)) (.int .i64 ((m : Nat) : Int)) (.bool false) (ne_i (m := ((m : Nat) : Int)) (n := ((m : Nat) : Int)) (decide_eq_false (by omega))) rfl rfl) <|
    ok_nil
  clear h; intro β a w h
  refine sym_then ?_
  refine s_cf h ?_
  refine wp_skip ?_
  refine sym_then ?_
  refine sym_seq ?_
  have hr6 := h.row 0 _ rfl
  have hb0 := KW.below h.bel
  obtain rfl : a = { tmps := #[.slice (some ⟨b, off, none⟩) n cap, .int .i64 ((i : Nat) : Int), .agg (ab 32 F), .slice pa m pcap, undef, undef, fv (pt 0) (β 0), undef, .bool false, .int .i64 ((n : Nat) : Int), undef, undef, .bool true, .bool false, .slice (some ⟨b, off, none⟩) n cap, .int .i64 ((n : Nat) : Int), .int .i64 ((n : Nat) : Int), .bool false, .bool false, .slice pa m pcap, .int .i64 ((m : Nat) : Int), .bool false, .bool false, .bool false, .int .i64 ((i : Nat) : Int), .bool false, .bool false, .bool false, .int .i64 ((i : Nat) : Int), .int .i64 ((n : Nat) : Int)] ++ (#[.bool false, .bool false, .agg (ab 32 F), .int .i64 ((i : Nat) : Int), .int .i64 ((n : Nat) : Int), .slice pa m pcap, .slice (some ⟨b, off, none⟩) n cap, .agg (ab 32 RT), .bool true, .bool false, .bool false, .agg (ab 32 F), .slice (some ⟨b, off, none⟩) n cap, .int .i64 ((i : Nat) : Int), .pointer (some ⟨b, off + 32 * i, none⟩), .agg (ab 32 G), .bool false, .bool false, .slice pa m pcap, .int .i64 ((m : Nat) : Int), .int .i64 ((i : Nat) : Int), .int .i64 ((n : Nat) : Int), .int .i64 ((m : Nat) : Int), .bool false, undef, undef, undef, undef, undef, undef] ++ #[undef, undef, undef, undef, undef, undef, undef]), defers := [] } := h.tm.trans (by kernel_rfl)
  clear h
  simp only [List.append_toArray, List.cons_append, List.nil_append]
  generalize β 0 = q at *
  have hq0 := (Array.getElem?_eq_some_iff.1 hr6).1
  obtain ⟨Z, hZ⟩ : ∃ Z, Hid (Z = ab 32 fun _ => 0) := ⟨_, hide1 rfl⟩
  have hzs : ∀ w : World, (zeroValue 34).run Tryd.prog w = .ok (.agg Z) w := fun w => by rw [hZ.out]; kernel_rfl
  have hZs : Z.size = 32 := by rw [hZ.out]; exact ab_size _ _
  go_wp2_with (refine wpList_load_row rfl 34 (.tmp 6) rfl q (ab 32 F) 34 rfl Tryd.underlying34 (sum_sz F) hr6 ?_)
  refine (hrc w hb0).mono ?_
  rintro e w2 ⟨tv, rfl, hts, hb2⟩
  have hb02 := blw hb0 hb2
  have hr10 := World.alloc_heap_new w2 (.cells Z 34)
  obtain ⟨w3, hw3⟩ : ∃ w3, Hid (w3 = (w2.alloc (.cells Z 34)).setRow w2.heap.size (ab 32 C)) := ⟨_, hide1 rfl⟩
  have hwr3 := wrt_row (c' := ab 32 C) hr10
  have hb3 : Below w2.heap.size w2 w3 := by rw [hw3.out]; exact below_wrt ((Below.refl _ _).alloc (Nat.le_refl _) _) hwr3 (Nat.le_refl _) (by simp)
  have hb03 := blw hb02 hb3
  obtain ⟨h0, xs, ho3, htt3⟩ := hts.later (Gx.of hb3)
  have hbs := hb0.size
  clear hwr3 hb2 hb02 hts hrc hr6 hq0 hrt hho hld hln
  go_wp2_with (refine wpList_store_row rfl 34 (.tmp 10) (.tmp 60) rfl w2.heap.size (ab 32 C) Z 34 rfl rfl (sum_sz C) hr10 (by rw [hZs, ab_size]) (ab_one _ _) rfl ?_; rw [← hw3.out])
  refine (htx w3 hb03).mono ?_
  rintro e w4 ⟨r, rfl, ys, ho4, hts4, hb4⟩
  have hr7 := own_mono (own_at ho3 hb4) hbs
  have hu7 := own_any ho4
  have hty7 := hide1 (own_ty hr7)
  have hA := hide1 ((htt3.map (fun h => h.later hb4)).map (fun h => h.mono hbs))
  have hs3 := hb03.size
  have hB := hide1 (hts4.map (fun h => h.mono hs3))
  have hb04 := blw hb03 hb4
  clear ho3 htt3 hts4 ho4 hb4 htx hzs hr10 hb3 hb03 h0
  go_wp2_with (at_builtin; refine wpList_append_sl rfl (.tmp 62) (.tmp 64) rfl W0.heap.size _ T1.length xs rfl hr7 _ T2.length ys rfl hu7 hB.out.cells (by omega) hb04.size ?_
               intro q3 w8 ho8 hg8
               have hts8 := (hA.out.map fun h => h.grown hg8 hty7.out).app (hB.out.map fun h => h.grown hg8 hty7.out)
               have hb8 : Below W0.heap.size W0 w8 := hb04.grown hg8 hb04.size (fun g e => (hr7.lt g e).1)
               rw [← List.length_append] at ho8
               rcases ho8.2 with ⟨_, h0⟩ | ⟨g, cap', cur, rfl, _⟩
               · exfalso; rw [List.length_append] at h0; omega
               clear hg8 hr7 hu7 hty7 hA hB hb04)
  have hcl := clash_d (by rw [List.length_append]; omega) (by rw [List.length_append]; omega) hb8 ho8 hts8 hTg hex
  rw [List.length_append] at hcl
  refine hcl.mono ?_
  rintro e w9 ⟨rfl, hb9⟩
  go_wp2
  go_ret
  exact ⟨rfl, hb9⟩
end Go.Proofs.YtbmhehppokcfnaaDoor

namespace Go.Proofs.YtbmhehppokcfnaaDoor
open Go.RowKit Go.Maps Sh
theorem txt_lt {F G : Nat → Nat} (hF : ∀ i, F i < 256) (hG : ∀ i, G i < 256) (i : Nat) : txt F G i < 256 := by
  unfold txt
  split
  · decide
  · split
    · exact hF _
    · exact hG _
theorem tx_lt (r : Bool) {F p : Nat → Nat} (hF : ∀ i, F i < 256) (hp : ∀ i, p i < 256) : ∀ i, tx r F p i < 256 := by
  unfold tx
  split
  · exact txt_lt hp hF
  · exact txt_lt hF hp
theorem ctxL_lt : ∀ (cs : List Cu) (ps : List (Nat → Nat)) (F : Nat → Nat), (∀ i, F i < 256) → (∀ p ∈ ps, ∀ i, p i < 256) → ∀ T ∈ ctxL cs ps F, ∀ i, T i < 256
  | c :: cs, p :: ps, F, hF, hp, T, hT => by
    rcases List.mem_cons.1 (show T ∈ tx c.r F p :: ctxL cs ps (jn c.r F p) from hT) with rfl | hT
    · exact tx_lt _ hF (hp p (List.mem_cons_self ..))
    · exact ctxL_lt cs ps _ (jn_lt _ _ _) (fun q hq => hp q (List.mem_cons_of_mem _ hq)) T hT
  | [], _, _, _, _, T, hT => by cases hT
  | _ :: _, [], _, _, _, T, hT => by cases hT
theorem only_walk {la pa : Option Addr} {n cap m pcap : Nat} {i : Int} {L ps : List (Nat → Nat)} {F : Nat → Nat} {W0 : World} (hF : ∀ i, F i < 256) (hL : L.length = n) (hs : SsAt W0 la L) (hcap : n ≤ cap) (hps : ps.length = m) (hp : SsAt W0 pa ps) (hpc : m ≤ pcap) (hg : Gl W0) : Calls Tryd.prog 22 #[.slice la n cap, .int .i64 i, .agg (ab 32 F), .slice pa m pcap] W0 fun e w' => e = .returned (.bool true) ∧ Below W0.heap.size W0 w' := by
  rcases Nat.lt_or_ge 100 n with h1 | h1
  · exact only_1 hg h1
  rcases Nat.lt_or_ge 100 m with h2 | h2
  · exact only_2 hg h1 h2
  by_cases h3 : i < 0
  · exact only_3 hg h1 h2 h3
  by_cases h4 : (n : Int) ≤ i
  · exact only_4 hg h1 h2 (by omega) h4
  obtain ⟨k, rfl⟩ : ∃ k : Nat, i = (k : Int) := ⟨i.toNat, by omega⟩
  have hi : k < n := by omega
  obtain ⟨b, off, rfl, _⟩ := hs.2 (by omega)
  have hrt : ∀ w, KW (wd W0) w → Calls Tryd.prog 15 #[.slice (some ⟨b, off, none⟩) n cap] w fun e w' => e = .returned (.agg (ab 32 (root L))) ∧ Below w.heap.size w w' := fun w hw => root_r n L _ cap w hL (by omega) (hs.later hw.below) hcap
  have hld : ∀ w, KW (wd W0) w → (Instr.loadAt 34 (.pointer (some ⟨b, off + 32 * k, none⟩))).run Tryd.prog w = .ok (.agg (ab 32 (L.getD k fun _ => 0))) w := fun w hw => ld_st2 (n := n) (hs.later hw.below) (fun _ => rfl) (by omega)
  by_cases hl : m = (way k n).length
  · have hho := fun w (hw : KW (wd W0) w) => holds_d (pcap := pcap) (R := root L) (gl_b hg hw.below) hF (hp.later hw.below) hps hi (by omega) hl
    cases he : eqD (comeL (way k n).reverse ps F) (root L) with
    | false => rw [he] at hho; exact only_5 hg h1 h2 hi hrt hho
    | true =>
      rw [he] at hho
      cases hb : eqD F (L.getD k fun _ => 0) with
      | true => exact only_6 hg h1 h2 hi hb hrt hho hld
      | false =>
        obtain ⟨T, hT, U, hU, hcl⟩ := alone_clash n k L ps F hL hi (by omega) (eqD_iff.1 he) (fun h => by rw [eqD_iff.2 h] at hb; cases hb)
        have hlc : (ctxL (way k n).reverse ps F).length = m := by rw [ctxL_len _ _ _ (by rw [List.length_reverse]; omega)]; exact hps
        have hlt := texts_len n L hL
        refine only_7 (T1 := ctxL (way k n).reverse ps F) (T2 := texts L) hg h1 h2 hi hb hrt hho hld (fun w => by rw [hl]; exact (refLen_d n k w hi (by omega)).mono fun e w' h => ⟨h.1, by rw [h.2]; exact Below.refl _ _⟩) (fun w hw => refCome_d n k ps m pa pcap F w hi (by omega) hps hl (by omega) hpc hF (hp.later hw)) (fun w hw => texts_r n L _ cap w hL (by omega) (hs.later hw) hcap) (by omega) (by omega) (List.length_pos_of_mem hT) ?_ ?_
        · refine fun i j => getD_lt (fun P hP => ?_) i j
          rcases List.mem_append.1 hP with h | h
          · exact ctxL_lt _ _ _ hF hp.1 P h
          · exact texts_lt n L hL hs.1 P h
        · obtain ⟨i, hi', rfl⟩ := List.getElem_of_mem hT
          obtain ⟨j, hj', rfl⟩ := List.getElem_of_mem hU
          refine ⟨i, (ctxL (way k n).reverse ps F).length + j, by rw [List.length_append]; omega, by rw [List.length_append]; omega, ?_⟩
          rw [List.getD_eq_getElem?_getD, List.getD_eq_getElem?_getD, List.getElem?_append_left hi', List.getElem?_append_right (by omega), Nat.add_sub_cancel_left, List.getElem?_eq_getElem hi', List.getElem?_eq_getElem hj']
          exact hcl
  · exact only_5 hg h1 h2 hi hrt (fun w hw => holds_len hi (by omega) hl)
end Go.Proofs.YtbmhehppokcfnaaDoor

namespace Go.Proofs.YtbmhehppokcfnaaDoor
open Go.RowKit Go.Maps Sh
/-- The cells of ProofAlone's argument. -/
def onA (la : Option Addr) (n cap : Nat) (i : Int) (F : Nat → Nat) (pa : Option Addr) (m pcap : Nat) : Array Value := ([Value.slice la n cap, Value.int .i64 i] ++ ((ab 32 F).toList ++ [Value.slice pa m pcap])).toArray
theorem on_0 {la pa : Option Addr} {n cap m pcap : Nat} {i : Int} {F : Nat → Nat} : (onA la n cap i F pa m pcap)[0]? = some (.slice la n cap) ∧ (onA la n cap i F pa m pcap)[1]? = some (.int .i64 i) ∧ (onA la n cap i F pa m pcap)[34]? = some (.slice pa m pcap) := by
  refine ⟨rfl, rfl, ?_⟩
  unfold onA
  rw [List.getElem?_toArray, List.getElem?_append_right (by show 2 ≤ _; omega)]
  show ((ab 32 F).toList ++ [Value.slice pa m pcap])[32]? = _
  rw [List.getElem?_append_right (by simp only [Array.length_toList, ab_size]; omega), Array.length_toList, ab_size]
  rfl
theorem on_F {la pa : Option Addr} {n cap m pcap j : Nat} {i : Int} {F : Nat → Nat} (h : j < 32) : (onA la n cap i F pa m pcap)[2 + j]? = some (.int .u8 ((F j : Nat) : Int)) := by
  unfold onA
  rw [List.getElem?_toArray, List.getElem?_append_right (by show 2 ≤ _; omega)]
  show ((ab 32 F).toList ++ [Value.slice pa m pcap])[2 + j - 2]? = _
  rw [show 2 + j - 2 = j by omega, List.getElem?_append_left (by simp only [Array.length_toList, ab_size]; exact h), Array.getElem?_toList]
  exact arr_get _ _ _ h
section
variable {H : Type} {enc : TypeId × Value → H} {W : World} {held : Bool}
theorem slc_l {k : Nat} {l : List Value} {x : DataW H × List MemPlace} (h3 : DataW.trod enc Tryd.prog W 0 (fun _ => true) held k 22 l = some x) : ∃ a m cap ps, l = [.slice a m cap] ∧ SsAt W a ps ∧ ps.length = m ∧ m ≤ cap := by
  obtain ⟨a, m, cap, rfl⟩ : ∃ a m cap, l = [.slice a m cap] := by
    rcases DataW.trod_slice Tryd.underlying22 h3 with ⟨e, _⟩ | ⟨a, m, cap, _, _, _, _, e, _⟩
    · exact ⟨none, 0, 0, e⟩
    · exact ⟨some a, m, cap, e⟩
  obtain ⟨ps, hs, hps, hcap⟩ := sums_in (a0 := a) (len0 := m) (cap0 := cap) ⟨_, h3⟩
  exact ⟨a, m, cap, ps, rfl, hs, hps, hcap⟩
theorem only_in {cs : Array Value} {d : DataW H} {p : List MemPlace} (h : DataW.Trod enc Tryd.prog W 0 (fun _ => true) held 46 (.agg cs) d p) :
    ∃ (la pa : Option Addr) (n cap m pcap : Nat) (i : Int) (F : Nat → Nat) (L ps : List (Nat → Nat)), cs = onA la n cap i F pa m pcap ∧ (∀ j, F j < 256) ∧ L.length = n ∧ SsAt W la L ∧ n ≤ cap ∧ ps.length = m ∧ SsAt W pa ps ∧ m ≤ pcap := by
  obtain ⟨fuel, h⟩ := h
  obtain ⟨xs, k, rfl, -, hl, hx, hi⟩ := DataW.trod_struct Tryd.underlying46 h
  have c34 : Tryd.prog.cellsOf 34 = 32 := by kernel_rfl
  have c3 : Tryd.prog.cellsOf 3 = 1 := by kernel_rfl
  have c22 : Tryd.prog.cellsOf 22 = 1 := by kernel_rfl
  have c39 : Tryd.prog.cellsOf 46 = 35 := by kernel_rfl
  have hx5 : xs.length = 4 := hx
  have hg : ∀ i (h : i < 4), xs[i]? = some (xs[i]'(by omega)) := fun i h => List.getElem?_eq_getElem _
  have h0 : DataW.trod enc Tryd.prog W 0 (fun _ => true) held k 22 ((cs.toList.drop 0).take (Tryd.prog.cellsOf 22)) = xs[0]? := hi 0 _ rfl
  have h1 : DataW.trod enc Tryd.prog W 0 (fun _ => true) held k 3 ((cs.toList.drop 1).take (Tryd.prog.cellsOf 3)) = xs[1]? := hi 1 _ rfl
  have h2 : DataW.trod enc Tryd.prog W 0 (fun _ => true) held k 34 ((cs.toList.drop 2).take (Tryd.prog.cellsOf 34)) = xs[2]? := hi 2 _ rfl
  have h3 : DataW.trod enc Tryd.prog W 0 (fun _ => true) held k 22 ((cs.toList.drop 34).take (Tryd.prog.cellsOf 22)) = xs[3]? := hi 3 _ rfl
  rw [hg 0 (by omega), c22] at h0
  rw [hg 1 (by omega), c3] at h1
  rw [hg 2 (by omega), c34] at h2
  rw [hg 3 (by omega), c22] at h3
  have hcs : (Value.agg cs).cells.toList = cs.toList := rfl
  rw [hcs, c39] at hl
  generalize hL : cs.toList = M at *
  obtain ⟨F, hF, e2⟩ := sum_l h2
  obtain ⟨i, e1, -, -⟩ := DataW.trod_int Tryd.underlying3 h1
  obtain ⟨la, n, cap, L, e0, q1, q2, q3⟩ := slc_l h0
  obtain ⟨pa, m, pcap, ps, e3, q4, q5, q6⟩ := slc_l h3
  refine ⟨la, pa, n, cap, m, pcap, i, F, L, ps, ?_, hF, q2, q1, q3, q5, q4, q6⟩
  have hsp : M = (M.drop 0).take 1 ++ ((M.drop 1).take 1 ++ ((M.drop 2).take 32 ++ (M.drop 34).take 1)) := by
    have t5 : (M.drop 34).take 1 = M.drop 34 := List.take_of_length_le (by rw [List.length_drop]; omega)
    have st : ∀ k q, (M.drop k).take q ++ M.drop (k + q) = M.drop k := fun k q => by
      have := List.take_append_drop q (M.drop k)
      rwa [List.drop_drop] at this
    rw [t5, st 2 32, st 1 1, st 0 1, List.drop_zero]
  rw [e0, e1, e2, e3] at hsp
  have : cs = M.toArray := by rw [← hL]
  rw [this, hsp]
  rfl
end
end Go.Proofs.YtbmhehppokcfnaaDoor

namespace Go.Proofs.YtbmhehppokcfnaaDoor
open Go.RowKit Go.Maps Sh
set_option maxHeartbeats 8000000 in
set_option maxRecDepth 100000 in
theorem alone_walk {la pa : Option Addr} {n cap m pcap : Nat} {i : Int} {L ps : List (Nat → Nat)} {F : Nat → Nat} {W0 : World} (hF : ∀ i, F i < 256) (hL : L.length = n) (hs : SsAt W0 la L) (hcap : n ≤ cap) (hps : ps.length = m) (hp : SsAt W0 pa ps) (hpc : m ≤ pcap) (hg : Gl W0) : Calls Tryd.prog 7 #[.agg (onA la n cap i F pa m pcap)] W0 fun e w' => e = .returned (.bool true) ∧ Below W0.heap.size W0 w' := by
  obtain ⟨X, hX⟩ : ∃ X, Hid (X = onA la n cap i F pa m pcap) := ⟨_, hide1 rfl⟩
  rw [← hX.out]
  have bx : ∀ w : World, (Instr.box 46 (.agg X)).run Tryd.prog w = .ok (.pointer (some ⟨w.heap.size, 0, none⟩)) (w.alloc (.cells X 46)) := fun w => bx_agg w
  have hal : Below W0.heap.size W0 (W0.alloc (.cells X 46)) := (Below.refl _ _).alloc (Nat.le_refl _) _
  have hr := World.alloc_heap_new W0 (.cells X 46)
  have hcall := only_walk (i := i) (cap := cap) (pcap := pcap) hF hL (hs.later hal) hcap hps (hp.later hal) hpc (gl_b hg hal)
  obtain ⟨w1, hw1⟩ : ∃ w1, Hid (w1 = W0.alloc (.cells X 46)) := ⟨_, hide1 rfl⟩
  rw [← hw1.out] at hal hr hcall
  obtain ⟨c1, c2, c3⟩ := on_0 (la := la) (n := n) (cap := cap) (i := i) (F := F) (pa := pa) (m := m) (pcap := pcap)
  have k1 : w1.cell? ⟨W0.heap.size, 0, none⟩ = some (.slice la n cap) := by rw [cell_of_row _ _ _ _ _ _ hr, hX.out]; exact c1
  have k2 : w1.cell? ⟨W0.heap.size, 1, none⟩ = some (.int .i64 i) := by rw [cell_of_row _ _ _ _ _ _ hr, hX.out]; exact c2
  have k3 : w1.cell? ⟨W0.heap.size, 34, none⟩ = some (.slice pa m pcap) := by rw [cell_of_row _ _ _ _ _ _ hr, hX.out]; exact c3
  have l1 := ld_mid (F := F) (off := 2) hr (fun j hj => by rw [hX.out]; exact on_F hj)
  clear c1 c2 c3 hr hs hp hL hps
  go_enter Tryd.func7, Tryd.ntmps7
  go_upto_region 1 with fail
  rw [← hw1.out]
  go_wp2_with (refine wpList_ld rfl 34 (.tmp 7) rfl (.pointer (some ⟨W0.heap.size, 2, none⟩)) rfl l1 ?_)
  refine hcall.mono ?_
  rintro e w2 ⟨rfl, hb2⟩
  have hb02 := blw hal hb2
  go_wp2
  go_ret
  exact ⟨rfl, hb02⟩
end Go.Proofs.YtbmhehppokcfnaaDoor

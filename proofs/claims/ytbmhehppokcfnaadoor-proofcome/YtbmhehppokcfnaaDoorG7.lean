/- PRU, PRS, PRV: laid together. -/
import Derived.Test.YtbmhehppokcfnaaDoorG6
import Derived.Test.YtbmhehppokcfnaaDoorG5
namespace Go.Proofs.YtbmhehppokcfnaaDoor
open Go.RowKit Go.Maps Sh
/-- The cells of ProofCome's argument. -/
def cmA (F R : Nat → Nat) (i n : Int) (a : Option Addr) (m cap : Nat) : Array Value := ((ab 32 F).toList ++ ([Value.int .i64 i, Value.int .i64 n, Value.slice a m cap] ++ (ab 32 R).toList)).toArray
section
variable {H : Type} {enc : TypeId × Value → H} {W : World} {held : Bool}
theorem sum_l {n : Nat} {cs : List Value} {x : DataW H × List MemPlace} (h2 : DataW.trod enc Tryd.prog W 0 (fun _ => true) held n 34 cs = some x) : ∃ F : Nat → Nat, (∀ j, F j < 256) ∧ cs = (ab 32 F).toList := by
  obtain ⟨xs, m, rfl, -, hlen, hx, hi⟩ := DataW.trod_array Tryd.underlying34 h2
  have hce : Tryd.prog.cellsOf 5 = 1 := by kernel_rfl
  have hct : Tryd.prog.cellsOf 34 = 32 := by kernel_rfl
  have hcell : ∀ i, i < 32 → ∃ n : Nat, n < 256 ∧ cs[i]? = some (.int .u8 (n : Int)) := by
    intro i hi32
    have h1 := hi i hi32
    have h2 : xs[i]? = some xs[i] := by simp [hx, hi32]
    rw [h2, hce, Nat.mul_one] at h1
    obtain ⟨n, hc, -, hw⟩ := DataW.trod_int Tryd.underlying5 h1
    have h3 : cs[i]? = some (.int .u8 n) := by
      have := congrArg (·[0]?) hc
      simpa [List.getElem?_take, List.getElem?_drop] using this
    simp only [Lit.wf, Bool.and_eq_true, decide_eq_true_eq] at hw
    have e1 : IntKind.u8.min = 0 := rfl
    have e2 : IntKind.u8.max = 255 := rfl
    refine ⟨n.toNat, by omega, ?_⟩
    rw [h3, show ((n.toNat : Nat) : Int) = n by omega]
  obtain ⟨F, hF⟩ := Deep.choose_lt hcell
  refine ⟨fun j => F j % 256, fun j => Nat.mod_lt _ (by decide), ?_⟩
  rw [hct] at hlen
  apply List.ext_getElem?
  intro i
  rcases Nat.lt_or_ge i 32 with h | h
  · obtain ⟨h3, h4⟩ := hF i h
    rw [h4, Array.getElem?_toList]
    have := arr_get 32 (fun j => Value.int .u8 ((F j % 256 : Nat) : Int)) i h
    rw [show (ab 32 fun j => F j % 256)[i]? = some (Value.int .u8 ((F i % 256 : Nat) : Int)) from this, Nat.mod_eq_of_lt h3]
  · rw [List.getElem?_eq_none (by omega), List.getElem?_eq_none (by simp only [Array.length_toList, ab_size]; exact h)]
theorem coming_in {cs : Array Value} {d : DataW H} {p : List MemPlace} (h : DataW.Trod enc Tryd.prog W 0 (fun _ => true) held 39 (.agg cs) d p) :
    ∃ (F R : Nat → Nat) (i n : Int) (a : Option Addr) (m cap : Nat) (ps : List (Nat → Nat)), cs = cmA F R i n a m cap ∧ (∀ j, F j < 256) ∧ ps.length = m ∧ SsAt W a ps ∧ m ≤ cap := by
  obtain ⟨fuel, h⟩ := h
  obtain ⟨xs, k, rfl, -, hl, hx, hi⟩ := DataW.trod_struct Tryd.underlying39 h
  have c34 : Tryd.prog.cellsOf 34 = 32 := by kernel_rfl
  have c3 : Tryd.prog.cellsOf 3 = 1 := by kernel_rfl
  have c22 : Tryd.prog.cellsOf 22 = 1 := by kernel_rfl
  have c39 : Tryd.prog.cellsOf 39 = 67 := by kernel_rfl
  have hx5 : xs.length = 5 := hx
  have hg : ∀ i (h : i < 5), xs[i]? = some (xs[i]'(by omega)) := fun i h => List.getElem?_eq_getElem _
  have h0 : DataW.trod enc Tryd.prog W 0 (fun _ => true) held k 34 ((cs.toList.drop 0).take (Tryd.prog.cellsOf 34)) = xs[0]? := hi 0 _ rfl
  have h1 : DataW.trod enc Tryd.prog W 0 (fun _ => true) held k 3 ((cs.toList.drop 32).take (Tryd.prog.cellsOf 3)) = xs[1]? := hi 1 _ rfl
  have h2 : DataW.trod enc Tryd.prog W 0 (fun _ => true) held k 3 ((cs.toList.drop 33).take (Tryd.prog.cellsOf 3)) = xs[2]? := hi 2 _ rfl
  have h3 : DataW.trod enc Tryd.prog W 0 (fun _ => true) held k 22 ((cs.toList.drop 34).take (Tryd.prog.cellsOf 22)) = xs[3]? := hi 3 _ rfl
  have h4 : DataW.trod enc Tryd.prog W 0 (fun _ => true) held k 34 ((cs.toList.drop 35).take (Tryd.prog.cellsOf 34)) = xs[4]? := hi 4 _ rfl
  rw [hg 0 (by omega)] at h0
  rw [hg 1 (by omega)] at h1
  rw [hg 2 (by omega)] at h2
  rw [hg 3 (by omega)] at h3
  rw [hg 4 (by omega)] at h4
  rw [c34] at h0 h4
  rw [c3] at h1 h2
  rw [c22] at h3
  have hcs : (Value.agg cs).cells.toList = cs.toList := rfl
  rw [hcs] at hl
  rw [c39] at hl
  generalize hL : cs.toList = L at *
  obtain ⟨F, hF, e0⟩ := sum_l h0
  obtain ⟨R, hR, e4⟩ := sum_l h4
  obtain ⟨i, e1, -, -⟩ := DataW.trod_int Tryd.underlying3 h1
  obtain ⟨n, e2, -, -⟩ := DataW.trod_int Tryd.underlying3 h2
  obtain ⟨a, m, cap, e3⟩ : ∃ a m cap, (L.drop 34).take 1 = [.slice a m cap] := by
    rcases DataW.trod_slice Tryd.underlying22 h3 with ⟨e, _⟩ | ⟨a, m, cap, _, _, _, _, e, _⟩
    · exact ⟨none, 0, 0, e⟩
    · exact ⟨some a, m, cap, e⟩
  rw [e3] at h3
  obtain ⟨ps, hs, hps, hcap⟩ := sums_in (a0 := a) (len0 := m) (cap0 := cap) ⟨_, h3⟩
  refine ⟨F, R, i, n, a, m, cap, ps, ?_, hF, hps, hs, hcap⟩
  have hsp : L = (L.drop 0).take 32 ++ ((L.drop 32).take 1 ++ ((L.drop 33).take 1 ++ ((L.drop 34).take 1 ++ (L.drop 35).take 32))) := by
    have t5 : (L.drop 35).take 32 = L.drop 35 := List.take_of_length_le (by rw [List.length_drop]; omega)
    have st : ∀ k, k < L.length → (L.drop k).take 1 ++ L.drop (k + 1) = L.drop k := fun k hk => by
      have := List.take_append_drop 1 (L.drop k)
      rwa [List.drop_drop] at this
    rw [t5, st 34 (by omega), st 33 (by omega), st 32 (by omega), List.drop_zero]
    exact (List.take_append_drop 32 L).symm
  rw [e0, e1, e2, e3, e4] at hsp
  have : cs = L.toArray := by rw [← hL]
  rw [this, hsp]
  rfl
end
end Go.Proofs.YtbmhehppokcfnaaDoor

namespace Go.Proofs.YtbmhehppokcfnaaDoor
open Go.RowKit Sh

set_option maxHeartbeats 8000000 in
set_option maxRecDepth 100000 in
theorem comes_ok {F R : Nat → Nat} {i n : Nat} {ps : List (Nat → Nat)} {bv : Bool} {a : Option Addr} {m cap : Nat} {W0 : World} (hg : Gl W0) (hm : m ≤ 100) (hi : i < n) (hn : n ≤ 1048576) (hl : m = (way i n).length) (hF : ∀ i, F i < 256) (hs : SsAt W0 a ps) (hps : ps.length = m) (hcap : m ≤ cap) (hbv : eqD (comeL (way i n).reverse ps F) R = bv) : Calls Tryd.prog 17 #[.agg (ab 32 F), .int .i64 ((i : Nat) : Int), .int .i64 ((n : Nat) : Int), .slice a m cap, .agg (ab 32 R)] W0 fun e w' => e = .returned (.bool true) ∧ Below W0.heap.size W0 w' := by
  have hq : ¬ (100 : Int) < (m : Int) := by omega
  have t1 : ¬ (n : Int) < 1 := by omega
  have t2 : ¬ (1048576 : Int) < (n : Int) := by omega
  have t3 : ¬ (i : Int) < 0 := by omega
  have t4 : ¬ (n : Int) ≤ (i : Int) := by omega
  have hLn := fun w => length_d hn hi w
  have hRl := fun w => refLen_d n i w hi hn
  have hwl := way_le i n
  have hq2 : m ≤ 1000 := by omega
  obtain ⟨A, hA⟩ : ∃ A, Hid (A = ab 32 F) := ⟨_, hide1 rfl⟩
  obtain ⟨C, hC⟩ : ∃ C, Hid (C = ab 32 R) := ⟨_, hide1 rfl⟩
  obtain ⟨Z, hZ⟩ : ∃ Z, Hid (Z = ab 32 fun _ => 0) := ⟨_, hide1 rfl⟩
  obtain ⟨X, hX⟩ : ∃ X, Hid (X = ab 32 (comeL (way i n).reverse ps F)) := ⟨_, hide1 rfl⟩
  have bxA : ∀ w : World, (Instr.box 34 (.agg A)).run Tryd.prog w = .ok (.pointer (some ⟨w.heap.size, 0, none⟩)) (w.alloc (.cells A 34)) := fun w => bx_agg w
  have bxC : ∀ w : World, (Instr.box 34 (.agg C)).run Tryd.prog w = .ok (.pointer (some ⟨w.heap.size, 0, none⟩)) (w.alloc (.cells C 34)) := fun w => bx_agg w
  have hzs : ∀ w : World, (zeroValue 34).run Tryd.prog w = .ok (.agg Z) w := fun w => by rw [hZ.out]; kernel_rfl
  have szA : (Tryd.prog.info? 34).map (·.size) = some A.size := by rw [hA.out]; exact sum_sz _
  have szC : (Tryd.prog.info? 34).map (·.size) = some C.size := by rw [hC.out]; exact sum_sz _
  have szX : (Tryd.prog.info? 34).map (·.size) = some X.size := by rw [hX.out]; exact sum_sz _
  have hXs : Z.size = X.size := by rw [hZ.out, hX.out, ab_size, ab_size]
  have oX : X.all (·.oneCell') = true := by rw [hX.out]; exact ab_one _ _
  have hcome := fun w (hw : Below W0.heap.size W0 w) => come_d (cap := cap) (gl_b hg hw) hF (hs.later hw) hps hi hn hl
  have hhold := fun w (hw : Below W0.heap.size W0 w) => holds_d (pcap := cap) (R := R) (gl_b hg hw) hF (hs.later hw) hps hi hn hl
  rw [← hA.out, ← hX.out] at hcome
  rw [hbv] at hhold
  rw [← hA.out, ← hC.out] at hhold
  have hrc := fun w (hw : Below W0.heap.size W0 w) => refCome_d n i ps m a cap F w hi hn hps hl hq2 hcap hF (hs.later hw)
  rw [← hA.out, ← hX.out] at hrc
  have HL := hide1 hl
  have HB := hide1 hbv
  clear hl hps hbv hs
  rw [← hA.out, ← hC.out]
  obtain ⟨w1, hw1⟩ : ∃ w1, Hid (w1 = (W0.alloc (.cells A 34)).alloc (.cells C 34)) := ⟨_, hide1 rfl⟩
  have hb1 : Below W0.heap.size W0 w1 := by rw [hw1.out]; exact ((Below.refl _ _).alloc (Nat.le_refl _) _).alloc (by simp) _
  have hrA : w1.heap[W0.heap.size]? = some (.cells A 34 (0, 0)) := by rw [hw1.out]; exact (Below.heap_alloc _ _ _ (by simp)).trans (World.alloc_heap_new W0 _)
  have hrC : w1.heap[W0.heap.size + 1]? = some (.cells C 34 (0, 0)) := by
    rw [hw1.out]; have := World.alloc_heap_new (W0.alloc (.cells A 34)) (.cells C 34); rwa [World.size_alloc] at this
  go_enter Tryd.func17, Tryd.ntmps17
  go_upto_region 1 with fail
  rw [← hw1.out]
  clear bxA bxC
  go_wp2_with fail
  refine (alive_t (gl_b hg hb1)).mono ?_
  rintro e w2 ⟨rfl, hb2⟩
  have hb02 := blw hb1 hb2
  have hA2 := (hb2.block _ (Array.getElem?_eq_some_iff.1 hrA).1).trans hrA
  have hC2 := (hb2.block _ (Array.getElem?_eq_some_iff.1 hrC).1).trans hrC
  clear hrA hrC
  go_wp2_with (refine wpList_load_row rfl 34 (.tmp 5) rfl W0.heap.size A 34 rfl Tryd.underlying34 szA hA2 ?_)
  refine (hcome w2 hb02).mono ?_
  rintro e w3 ⟨rfl, hb3⟩
  have hb03 := blw hb02 hb3
  have hr11 := World.alloc_heap_new w3 (.cells Z 34)
  obtain ⟨w4, hw4⟩ : ∃ w4, Hid (w4 = (w3.alloc (.cells Z 34)).setRow w3.heap.size X) := ⟨_, hide1 rfl⟩
  have hwr4 := wrt_row (c' := X) hr11
  have hb4 : Below w3.heap.size w3 w4 := by rw [hw4.out]; exact below_wrt ((Below.refl _ _).alloc (Nat.le_refl _) _) hwr4 (Nat.le_refl _) (by simp)
  have hX4 : w4.heap[w3.heap.size]? = some (.cells X 34 (0, 0)) := by rw [hw4.out]; exact hwr4.row
  have hA4 := (blk2 hb3 hb4 hA2)
  have hC4 := (blk2 hb3 hb4 hC2)
  have hb04 := blw hb03 hb4
  clear hwr4 hA2 hC2 hb3 hb4 hb2 hb1
  go_wp2_with (first
    | (refine wpList_store_row rfl 34 (.tmp 11) (.tmp 27) rfl w3.heap.size X Z 34 rfl rfl szX hr11 hXs oX rfl ?_; rw [← hw4.out])
    | (refine wpList_load_row rfl 34 (.tmp 5) rfl W0.heap.size A 34 rfl Tryd.underlying34 szA hA4 ?_)
    | (refine wpList_load_row rfl 34 (.tmp 9) rfl (W0.heap.size + 1) C 34 rfl Tryd.underlying34 szC hC4 ?_))
  refine (hhold w4 hb04).mono ?_
  rintro e w5 ⟨rfl, hb5⟩
  have hX5 := (hb5.block _ (Array.getElem?_eq_some_iff.1 hX4).1).trans hX4
  have hC5 := (hb5.block _ (Array.getElem?_eq_some_iff.1 hC4).1).trans hC4
  have hb05 := blw hb04 hb5
  have hA5 := (hb5.block _ (Array.getElem?_eq_some_iff.1 hA4).1).trans hA4
  clear hX4 hC4 hA4 hr11 hcome hhold
  obtain ⟨N, hN⟩ : ∃ N, Hid (N = (way i n).length) := ⟨_, hide1 rfl⟩
  rw [← hN.out] at hLn hRl
  have hmn : ((m : Int) != (N : Int)) = false := by rw [HL.out, hN.out]; simp
  have hnn : ((N : Int) != (N : Int)) = false := by simp
  have hl11 := fun w (hb : Below w5.heap.size w5 w) => ld_rw szX ((hb.block _ (Array.getElem?_eq_some_iff.1 hX5).1).trans hX5)
  have hXX := hide1 (congrArg Value.agg hX.out)
  have hCC := hide1 (congrArg Value.agg hC.out)
  go_wp2_with fail
  refine (hLn w5).mono ?_
  rintro e w6 ⟨rfl, hb6⟩
  go_wp2_with fail
  refine (hRl w6).mono ?_
  rintro e w7 ⟨rfl, rfl⟩
  go_wp2_with fail
  refine (hRl w7).mono ?_
  rintro e w8 ⟨rfl, rfl⟩
  have hb06 := blw hb05 hb6
  have hA6 := (hb6.block _ (Array.getElem?_eq_some_iff.1 hA5).1).trans hA5
  go_wp2_with (refine wpList_load_row rfl 34 (.tmp 5) rfl W0.heap.size A 34 rfl Tryd.underlying34 szA hA6 ?_)
  refine (hrc _ hb06).mono ?_
  rintro e w9 ⟨tv, rfl, -, hb9⟩
  have hr14 := World.alloc_heap_new w9 (.cells Z 34)
  obtain ⟨wa, hwa⟩ : ∃ wa, Hid (wa = (w9.alloc (.cells Z 34)).setRow w9.heap.size X) := ⟨_, hide1 rfl⟩
  have hwra := wrt_row (c' := X) hr14
  have hba : Below w9.heap.size w9 wa := by rw [hwa.out]; exact below_wrt ((Below.refl _ _).alloc (Nat.le_refl _) _) hwra (Nat.le_refl _) (by simp)
  have hXa : wa.heap[w9.heap.size]? = some (.cells X 34 (0, 0)) := by rw [hwa.out]; exact hwra.row
  have hb5a := blw (blw hb6 hb9) hba
  have hl11a := hl11 wa hb5a
  have hl14a := ld_rw szX hXa
  have hl9a := ld_rw szC ((hb5a.block _ (Array.getElem?_eq_some_iff.1 hC5).1).trans hC5)
  have hb0a := blw hb05 hb5a
  clear hrc hl11 hwra hXa hb9 hba hb6 hb06 hA6 hb5a
  go_upto_region 14 with (refine wpList_store_row rfl 34 (.tmp 14) (.tmp 97) rfl w9.heap.size X Z 34 rfl rfl szX hr14 hXs oX rfl ?_; rw [← hwa.out])
  clear hr14
  cases bv with
  | true =>
    go_wp2_with (first
      | (refine wpList_ld rfl 34 (.tmp 11) rfl (.pointer (some ⟨w3.heap.size, 0, none⟩)) rfl hl11a ?_)
      | (refine wpList_ld rfl 34 (.tmp 14) rfl (.pointer (some ⟨w9.heap.size, 0, none⟩)) rfl hl14a ?_)
      | (refine wpList_ld rfl 34 (.tmp 9) rfl (.pointer (some ⟨W0.heap.size + 1, 0, none⟩)) rfl hl9a ?_)
      | (refine wpList_eqG rfl (.tmp 102) (.tmp 103) rfl hXX.out hXX.out (eqD_refl _) ?_)
      | (refine wpList_eqG rfl (.tmp 108) (.tmp 109) rfl hXX.out hCC.out HB.out ?_))
    go_ret
    exact ⟨rfl, hb0a⟩
  | false =>
    go_wp2_with (first
      | (refine wpList_ld rfl 34 (.tmp 11) rfl (.pointer (some ⟨w3.heap.size, 0, none⟩)) rfl hl11a ?_)
      | (refine wpList_ld rfl 34 (.tmp 14) rfl (.pointer (some ⟨w9.heap.size, 0, none⟩)) rfl hl14a ?_)
      | (refine wpList_ld rfl 34 (.tmp 9) rfl (.pointer (some ⟨W0.heap.size + 1, 0, none⟩)) rfl hl9a ?_)
      | (refine wpList_eqG rfl (.tmp 102) (.tmp 103) rfl hXX.out hXX.out (eqD_refl _) ?_)
      | (refine wpList_eqG rfl (.tmp 108) (.tmp 109) rfl hXX.out hCC.out HB.out ?_))
    go_ret
    exact ⟨rfl, hb0a⟩
theorem comes_walk {F R : Nat → Nat} {i n : Int} {a : Option Addr} {m cap : Nat} {ps : List (Nat → Nat)} {W0 : World} (hF : ∀ i, F i < 256) (hps : ps.length = m) (hs : SsAt W0 a ps) (hcap : m ≤ cap) (hg : Gl W0) : Calls Tryd.prog 17 #[.agg (ab 32 F), .int .i64 i, .int .i64 n, .slice a m cap, .agg (ab 32 R)] W0 fun e w' => e = .returned (.bool true) ∧ Below W0.heap.size W0 w' := by
  rcases Nat.lt_or_ge 100 m with h | h
  · exact comes_big hg h
  · by_cases hb : badR i n
    · exact comes_bad hg h hb
    · unfold badR at hb
      obtain ⟨k, rfl⟩ : ∃ k : Nat, i = (k : Int) := ⟨i.toNat, by omega⟩
      obtain ⟨l, rfl⟩ : ∃ l : Nat, n = (l : Int) := ⟨n.toNat, by omega⟩
      by_cases hl : m = (way k l).length
      · exact comes_ok hg h (by omega) (by omega) hl hF hs hps hcap rfl
      · exact comes_len hg h (by omega) (by omega) hl
end Go.Proofs.YtbmhehppokcfnaaDoor

namespace Go.Proofs.YtbmhehppokcfnaaDoor
open Go.RowKit Go.Maps Sh
theorem cm_size (F R : Nat → Nat) (i n : Int) (a : Option Addr) (m cap : Nat) : (cmA F R i n a m cap).size = 67 := by
  unfold cmA
  simp only [List.size_toArray, List.length_append, Array.length_toList, ab_size]
  rfl
theorem cm_F {F R : Nat → Nat} {i n : Int} {a : Option Addr} {m cap j : Nat} (h : j < 32) : (cmA F R i n a m cap)[j]? = some (.int .u8 ((F j : Nat) : Int)) := by
  unfold cmA
  rw [List.getElem?_toArray, List.getElem?_append_left (by simp only [Array.length_toList, ab_size]; exact h), Array.getElem?_toList]
  exact arr_get _ _ _ h
theorem cm_R {F R : Nat → Nat} {i n : Int} {a : Option Addr} {m cap j : Nat} (h : j < 32) : (cmA F R i n a m cap)[35 + j]? = some (.int .u8 ((R j : Nat) : Int)) := by
  unfold cmA
  rw [List.getElem?_toArray, List.getElem?_append_right (by simp only [Array.length_toList, ab_size]; omega), Array.length_toList, ab_size, List.getElem?_append_right (by show 3 ≤ _; omega)]
  show (ab 32 R).toList[35 + j - 32 - 3]? = _
  rw [show 35 + j - 32 - 3 = j by omega, Array.getElem?_toList]
  exact arr_get _ _ _ h
theorem cm_m {F R : Nat → Nat} {i n : Int} {a : Option Addr} {m cap : Nat} : (cmA F R i n a m cap)[32]? = some (.int .i64 i) ∧ (cmA F R i n a m cap)[33]? = some (.int .i64 n) ∧ (cmA F R i n a m cap)[34]? = some (.slice a m cap) := by
  have h : ∀ k, k < 3 → (cmA F R i n a m cap)[32 + k]? = [Value.int .i64 i, Value.int .i64 n, Value.slice a m cap][k]? := fun k hk => by
    unfold cmA
    rw [List.getElem?_toArray, List.getElem?_append_right (by simp only [Array.length_toList, ab_size]; omega), Array.length_toList, ab_size, show 32 + k - 32 = k by omega, List.getElem?_append_left (by show k < 3; exact hk)]
  exact ⟨h 0 (by decide), h 1 (by decide), h 2 (by decide)⟩
theorem ld_mid {w : World} {b off : Nat} {c : Array Value} {t0 : TypeId} {F : Nat → Nat} (h : w.heap[b]? = some (.cells c t0 (0, 0))) (hc : ∀ j, j < 32 → c[off + j]? = some (.int .u8 ((F j : Nat) : Int))) : (Instr.loadAt 34 (.pointer (some ⟨b, off, none⟩))).run Tryd.prog w = .ok (.agg (ab 32 F)) w := by
  rw [ab_list]
  refine run_loadAt_mid w b off 34 _ _ (fun j v hj => ?_) Tryd.underlying34 rfl (by rw [List.length_map, List.length_range]; kernel_rfl)
  rw [List.getElem?_map] at hj
  rcases Nat.lt_or_ge j 32 with h1 | h1
  · rw [List.getElem?_range h1, Option.map_some] at hj
    cases hj
    rw [cell_of_row _ _ _ _ _ _ h]
    exact hc j h1
  · rw [List.getElem?_eq_none (by simpa using h1)] at hj; cases hj
set_option maxHeartbeats 8000000 in
set_option maxRecDepth 100000 in
theorem come_walk {F R : Nat → Nat} {i n : Int} {a : Option Addr} {m cap : Nat} {ps : List (Nat → Nat)} {W0 : World} (hF : ∀ i, F i < 256) (hps : ps.length = m) (hs : SsAt W0 a ps) (hcap : m ≤ cap) (hg : Gl W0) : Calls Tryd.prog 4 #[.agg (cmA F R i n a m cap)] W0 fun e w' => e = .returned (.bool true) ∧ Below W0.heap.size W0 w' := by
  obtain ⟨X, hX⟩ : ∃ X, Hid (X = cmA F R i n a m cap) := ⟨_, hide1 rfl⟩
  rw [← hX.out]
  have bx : ∀ w : World, (Instr.box 39 (.agg X)).run Tryd.prog w = .ok (.pointer (some ⟨w.heap.size, 0, none⟩)) (w.alloc (.cells X 39)) := fun w => bx_agg w
  have hal : Below W0.heap.size W0 (W0.alloc (.cells X 39)) := (Below.refl _ _).alloc (Nat.le_refl _) _
  have hr := World.alloc_heap_new W0 (.cells X 39)
  have hcall := comes_walk (F := F) (R := R) (i := i) (n := n) (cap := cap) hF hps (hs.later hal) hcap (gl_b hg hal)
  obtain ⟨w1, hw1⟩ : ∃ w1, Hid (w1 = W0.alloc (.cells X 39)) := ⟨_, hide1 rfl⟩
  rw [← hw1.out] at hal hr hcall
  obtain ⟨c1, c2, c3⟩ := cm_m (F := F) (R := R) (i := i) (n := n) (a := a) (m := m) (cap := cap)
  have k1 : w1.cell? ⟨W0.heap.size, 32, none⟩ = some (.int .i64 i) := by rw [cell_of_row _ _ _ _ _ _ hr, hX.out]; exact c1
  have k2 : w1.cell? ⟨W0.heap.size, 33, none⟩ = some (.int .i64 n) := by rw [cell_of_row _ _ _ _ _ _ hr, hX.out]; exact c2
  have k3 : w1.cell? ⟨W0.heap.size, 34, none⟩ = some (.slice a m cap) := by rw [cell_of_row _ _ _ _ _ _ hr, hX.out]; exact c3
  have l1 := ld_mid (F := F) (off := 0) hr (fun j hj => by rw [hX.out, Nat.zero_add]; exact cm_F hj)
  have l2 := ld_mid (F := R) (off := 35) hr (fun j hj => by rw [hX.out]; exact cm_R hj)
  clear c1 c2 c3 hr hs
  go_enter Tryd.func4, Tryd.ntmps4
  go_upto_region 1 with fail
  rw [← hw1.out]
  go_wp2_with (first
    | (refine wpList_ld rfl 34 (.tmp 3) rfl (.pointer (some ⟨W0.heap.size, 0, none⟩)) rfl l1 ?_)
    | (refine wpList_ld rfl 34 (.tmp 11) rfl (.pointer (some ⟨W0.heap.size, 35, none⟩)) rfl l2 ?_))
  refine hcall.mono ?_
  rintro e w2 ⟨rfl, hb2⟩
  have hb02 := blw hal hb2
  go_wp2
  go_ret
  exact ⟨rfl, hb02⟩
end Go.Proofs.YtbmhehppokcfnaaDoor

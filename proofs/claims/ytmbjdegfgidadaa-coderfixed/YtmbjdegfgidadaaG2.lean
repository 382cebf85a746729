/- B24, B25, W3, B26: laid together. -/
import Derived.WalkKit
import Derived.ChangeKeysEq
import Derived.Test.YtmbjdegfgidadaaG1
namespace Go.Proofs.Ytmbjdegfgidadaa
open Go.RowKit Go.Maps

theorem fx_no {n : Nat} {l : List Int} (h : l.length ≠ n) : fx n (some l) = none := if_neg h
theorem fx_yes {n : Nat} {l : List Int} (h : l.length = n) : fx n (some l) = some l := if_pos h

set_option maxHeartbeats 4000000 in
set_option maxRecDepth 100000 in
theorem sum_d (zs : List Int) (hz : Byt zs) (hm : zs.length ≤ 1000000) (w : World) :
    Calls Try.prog 21 #[.string (strOfNums zs)] w fun e w' => AnF 32 (fx 32 (ga4 .z zs)) e ∧ Below w.heap.size w w' := by
  have H := fun w => unhex_d zs hz hm w
  have hY : ∀ l, ga4 .z zs = some l → Byt l := fun l h => (hexE_ga4 zs l hz h).2
  generalize ga4 .z zs = A at *
  generalize strOfNums zs = S at *
  clear hz
  have hzs : ∀ w : World, (zeroValue 40).run Try.prog w = .ok (.agg (bA (zL 32))) w := fun w => by kernel_rfl
  obtain ⟨Z, hZ⟩ : ∃ Z, Hid (Z = bA (zL 32)) := ⟨_, hide1 rfl⟩
  rw [← hZ.out] at hzs
  have P0 := (MapKept.heap_alloc w (.cells Z 40)).1
  have Pw := below_one w (.cells Z 40)
  have hsz : Z.size = 32 := by rw [hZ.out]; rfl
  obtain ⟨u, hu⟩ : ∃ u, Hid (u = w.alloc (.cells Z 40)) := ⟨_, hide1 rfl⟩
  rw [← hu.out] at P0 Pw
  rcases A with _ | l
  · go_enter Try.func21, Try.ntmps21
    go_wp2_with fail
    rw [← hu.out]
    refine (H _).mono ?_
    rintro e w1 ⟨h, hw1⟩
    obtain rfl := h
    have r1 := (hw1.block w.heap.size (Array.getElem?_eq_some_iff.1 P0).1).trans P0
    have hst : (storeCells ⟨w.heap.size, 0, none⟩ Z.toList).run Try.prog w1 = .ok () (w1.setRow w.heap.size Z) := by
      have := st_bA (l := zL 32) r1 hsz
      rw [← hZ.out] at this; exact this
    have r2 := hide1 (row_set (c' := Z) r1)
    clear r1
    go_wp2_with fail
    exact bodyPost_ret (results_ct rfl _ rfl rfl Try.underlying40 (by rw [hsz]; kernel_rfl) r2.out) rfl ⟨by rw [hZ.out]; rfl, bel_set (bl2 Pw hw1) (Nat.le_refl _)⟩
  · have hYl := hY l rfl
    clear hY
    go_enter Try.func21, Try.ntmps21
    go_wp2_with fail
    rw [← hu.out]
    refine (H _).mono ?_
    rintro e w1 ⟨h, hw1⟩
    obtain ⟨v, rfl, ho⟩ := h
    by_cases hl : l.length = 32
    · rw [hl] at ho
      obtain ⟨g, cp, rfl, -, -, hcm, hcl⟩ := owned_form ho (by omega)
      have hcm : cp ≤ 9223372036854775807 := by unfold maxLen at hcm; exact hcm
      have hl' := hide1 hl
      clear hl
      have r1 := (hw1.block w.heap.size (Array.getElem?_eq_some_iff.1 P0).1).trans P0
      have hrng : w1.rangeAt g 0 (l.map (Value.int .u8)) := rng_bA hl'.out hcl
      have hst : (storeCells ⟨w.heap.size, 0, none⟩ (bA l).toList).run Try.prog w1 = .ok () (w1.setRow w.heap.size (bA l)) := st_bA r1 (hsz.trans hl'.out.symm)
      have r2 := hide1 (row_set (c' := bA l) r1)
      have zl : (bA l).size = 32 := by rw [bA_size, hl'.out]
      clear r1 hcl ho
      obtain ⟨Y, hYY⟩ : ∃ Y, Hid (Y = bA l) := ⟨_, hide1 rfl⟩
      rw [← hYY.out] at hst r2 zl
      have har : (Instr.arrayAt 40 (.slice (some ⟨g, 0, none⟩) 32 cp)).run Try.prog w1 = .ok (.pointer (some ⟨g, 0, none⟩)) w1 := by kernel_rfl
      go_wp2_with (refine wpList_load_mid rfl 40 (.tmp 21) rfl g 0 rfl (l.map (Value.int .u8)) _ hrng Try.underlying40 rfl (by rw [List.length_map, hl'.out]; kernel_rfl) ?_; rw [show (l.map (Value.int .u8)).toArray = Y from hYY.out.symm])
      exact bodyPost_ret (results_ct rfl _ rfl rfl Try.underlying40 (by rw [zl]; kernel_rfl) r2.out) rfl ⟨by rw [fx_yes hl'.out, hYY.out]; rfl, bel_set (bl2 Pw hw1) (Nat.le_refl _)⟩
    · obtain ⟨a1, c1, rfl, -, -⟩ := bs_owned ho hYl
      clear ho
      have r1 := (hw1.block w.heap.size (Array.getElem?_eq_some_iff.1 P0).1).trans P0
      have hst : (storeCells ⟨w.heap.size, 0, none⟩ Z.toList).run Try.prog w1 = .ok () (w1.setRow w.heap.size Z) := by
        have := st_bA (l := zL 32) r1 hsz
        rw [← hZ.out] at this; exact this
      have r2 := hide1 (row_set (c' := Z) r1)
      clear r1
      go_wp2_with fail
      exact bodyPost_ret (results_ct rfl _ rfl rfl Try.underlying40 (by rw [hsz]; kernel_rfl) r2.out) rfl ⟨by rw [hZ.out]; rw [fx_no hl]; rfl, bel_set (bl2 Pw hw1) (Nat.le_refl _)⟩
set_option maxHeartbeats 4000000 in
set_option maxRecDepth 100000 in
theorem wide_d (zs : List Int) (hz : Byt zs) (hm : zs.length ≤ 1000000) (w : World) :
    Calls Try.prog 22 #[.string (strOfNums zs)] w fun e w' => AnF 64 (fx 64 (d64 zs)) e ∧ Below w.heap.size w w' := by
  have H := fun w => unbase64_d zs hz hm w
  have hY : ∀ l, d64 zs = some l → Byt l := fun l h => (b64E_d64 zs l hz h).2
  generalize d64 zs = A at *
  generalize strOfNums zs = S at *
  clear hz
  have hzs : ∀ w : World, (zeroValue 44).run Try.prog w = .ok (.agg (bA (zL 64))) w := fun w => by kernel_rfl
  obtain ⟨Z, hZ⟩ : ∃ Z, Hid (Z = bA (zL 64)) := ⟨_, hide1 rfl⟩
  rw [← hZ.out] at hzs
  have P0 := (MapKept.heap_alloc w (.cells Z 44)).1
  have Pw := below_one w (.cells Z 44)
  have hsz : Z.size = 64 := by rw [hZ.out]; rfl
  obtain ⟨u, hu⟩ : ∃ u, Hid (u = w.alloc (.cells Z 44)) := ⟨_, hide1 rfl⟩
  rw [← hu.out] at P0 Pw
  rcases A with _ | l
  · go_enter Try.func22, Try.ntmps22
    go_wp2_with fail
    rw [← hu.out]
    refine (H _).mono ?_
    rintro e w1 ⟨h, hw1⟩
    obtain rfl := h
    have r1 := (hw1.block w.heap.size (Array.getElem?_eq_some_iff.1 P0).1).trans P0
    have hst : (storeCells ⟨w.heap.size, 0, none⟩ Z.toList).run Try.prog w1 = .ok () (w1.setRow w.heap.size Z) := by
      have := st_bA (l := zL 64) r1 hsz
      rw [← hZ.out] at this; exact this
    have r2 := hide1 (row_set (c' := Z) r1)
    clear r1
    go_wp2_with fail
    exact bodyPost_ret (results_ct rfl _ rfl rfl Try.underlying44 (by rw [hsz]; kernel_rfl) r2.out) rfl ⟨by rw [hZ.out]; rfl, bel_set (bl2 Pw hw1) (Nat.le_refl _)⟩
  · have hYl := hY l rfl
    clear hY
    go_enter Try.func22, Try.ntmps22
    go_wp2_with fail
    rw [← hu.out]
    refine (H _).mono ?_
    rintro e w1 ⟨h, hw1⟩
    obtain ⟨v, rfl, ho⟩ := h
    by_cases hl : l.length = 64
    · rw [hl] at ho
      obtain ⟨g, cp, rfl, -, -, hcm, hcl⟩ := owned_form ho (by omega)
      have hcm : cp ≤ 9223372036854775807 := by unfold maxLen at hcm; exact hcm
      have hl' := hide1 hl
      clear hl
      have r1 := (hw1.block w.heap.size (Array.getElem?_eq_some_iff.1 P0).1).trans P0
      have hrng : w1.rangeAt g 0 (l.map (Value.int .u8)) := rng_bA hl'.out hcl
      have hst : (storeCells ⟨w.heap.size, 0, none⟩ (bA l).toList).run Try.prog w1 = .ok () (w1.setRow w.heap.size (bA l)) := st_bA r1 (hsz.trans hl'.out.symm)
      have r2 := hide1 (row_set (c' := bA l) r1)
      have zl : (bA l).size = 64 := by rw [bA_size, hl'.out]
      clear r1 hcl ho
      obtain ⟨Y, hYY⟩ : ∃ Y, Hid (Y = bA l) := ⟨_, hide1 rfl⟩
      rw [← hYY.out] at hst r2 zl
      have har : (Instr.arrayAt 44 (.slice (some ⟨g, 0, none⟩) 64 cp)).run Try.prog w1 = .ok (.pointer (some ⟨g, 0, none⟩)) w1 := by kernel_rfl
      go_wp2_with (refine wpList_load_mid rfl 44 (.tmp 21) rfl g 0 rfl (l.map (Value.int .u8)) _ hrng Try.underlying44 rfl (by rw [List.length_map, hl'.out]; kernel_rfl) ?_; rw [show (l.map (Value.int .u8)).toArray = Y from hYY.out.symm])
      exact bodyPost_ret (results_ct rfl _ rfl rfl Try.underlying44 (by rw [zl]; kernel_rfl) r2.out) rfl ⟨by rw [fx_yes hl'.out, hYY.out]; rfl, bel_set (bl2 Pw hw1) (Nat.le_refl _)⟩
    · obtain ⟨a1, c1, rfl, -, -⟩ := bs_owned ho hYl
      clear ho
      have r1 := (hw1.block w.heap.size (Array.getElem?_eq_some_iff.1 P0).1).trans P0
      have hst : (storeCells ⟨w.heap.size, 0, none⟩ Z.toList).run Try.prog w1 = .ok () (w1.setRow w.heap.size Z) := by
        have := st_bA (l := zL 64) r1 hsz
        rw [← hZ.out] at this; exact this
      have r2 := hide1 (row_set (c' := Z) r1)
      clear r1
      go_wp2_with fail
      exact bodyPost_ret (results_ct rfl _ rfl rfl Try.underlying44 (by rw [hsz]; kernel_rfl) r2.out) rfl ⟨by rw [hZ.out]; rw [fx_no hl]; rfl, bel_set (bl2 Pw hw1) (Nat.le_refl _)⟩
end Go.Proofs.Ytmbjdegfgidadaa

namespace Go.Proofs.Ytmbjdegfgidadaa
open Go.RowKit Go.Maps

def AnH (n : Nat) (o : Option (List Int)) (e : Ending) : Prop := match o with
  | none => e = .returned (.tuple #[.agg (bA (zL n)), .bool false])
  | some l => e = .returned (.tuple #[.agg (bA l), .bool true])
/-- The first k ones of a row, then noughts. -/
def pz (l : List Int) (k : Nat) : List Int := l.take k ++ zL (l.length - k)
theorem pz_0 (l : List Int) : pz l 0 = zL l.length := by simp [pz]
theorem pz_all (l : List Int) {n : Nat} (h : l.length = n) : pz l n = l := by subst h; simp [pz, zL]
theorem pz_len (l : List Int) {k : Nat} (h : k ≤ l.length) : (pz l k).length = l.length := by simp [pz, zL]; omega
theorem pz_s (l : List Int) {k : Nat} (h : k < l.length) : (bA (pz l k)).setIfInBounds k (.int .u8 (l.getD k 0)) = bA (pz l (k + 1)) := by
  have e1 : zL (l.length - k) = 0 :: zL (l.length - (k + 1)) := by
    unfold zL
    rw [show l.length - k = (l.length - (k + 1)) + 1 by omega, List.replicate_succ]
  have e2 : pz l (k + 1) = l.take k ++ (l.getD k 0 :: zL (l.length - (k + 1))) := by unfold pz; rw [take_snoc l k h]; simp
  have e3 : pz l k = l.take k ++ (0 :: zL (l.length - (k + 1))) := by unfold pz; rw [e1]
  rw [e2, e3]
  unfold bA
  rw [List.setIfInBounds_toArray]
  congr 1
  rw [List.map_append, List.map_append, List.set_append]
  simp [Nat.min_eq_left (Nat.le_of_lt h)]

set_option maxHeartbeats 4000000 in
set_option maxRecDepth 100000 in
theorem rsum_d (zs : List Int) (hz : Byt zs) (hm : zs.length ≤ 100000) (w : World) :
    Calls Try.prog 23 #[.string (strOfNums zs)] w fun e w' => AnH 32 (fx 32 (ga4 .z zs)) e ∧ Below w.heap.size w w' := by
  have H := fun w => refUnhex_d zs hz hm w
  have hY : ∀ l, ga4 .z zs = some l → Byt l := fun l h => (hexE_ga4 zs l hz h).2
  generalize ga4 .z zs = A at *
  generalize strOfNums zs = S at *
  clear hz
  have hzs : ∀ w : World, (zeroValue 40).run Try.prog w = .ok (.agg (bA (zL 32))) w := fun w => by kernel_rfl
  obtain ⟨Z, hZ⟩ : ∃ Z, Hid (Z = bA (zL 32)) := ⟨_, hide1 rfl⟩
  rw [← hZ.out] at hzs
  have hsz : Z.size = 32 := by rw [hZ.out]; rfl
  obtain ⟨u, hu⟩ : ∃ u, Hid (u = (w.alloc (.cells Z 40)).alloc (.cells Z 40)) := ⟨_, hide1 rfl⟩
  have hus : u.heap.size = w.heap.size + 2 := by rw [hu.out]; simp
  have P0 : u.heap[w.heap.size]? = some (.cells Z 40 (0, 0)) := by rw [hu.out, Below.heap_alloc _ _ _ (by simp)]; exact (MapKept.heap_alloc w _).1
  have P1 : u.heap[w.heap.size + 1]? = some (.cells Z 40 (0, 0)) := by
    rw [hu.out]
    have := (MapKept.heap_alloc (w.alloc (.cells Z 40)) (.cells Z 40)).1
    rwa [show (w.alloc (.cells Z 40)).heap.size = w.heap.size + 1 by simp] at this
  have Pw : Below w.heap.size w u := by rw [hu.out]; exact (below_one w _).alloc (by simp) _
  go_enter Try.func23, Try.ntmps23
  go_wp2_with fail
  rw [← hu.out]
  refine (H _).mono ?_
  rintro e w1 ⟨h, hw1⟩
  have r1 := (hw1.block w.heap.size (by omega)).trans P0
  have r4 := (hw1.block (w.heap.size + 1) (by omega)).trans P1
  have q1 := hide1 (rng_bA (w := w1) (b := w.heap.size + 1) (l := zL 32) (n := 32) rfl (fun i hi => by rw [hZ.out] at r4; simp [World.cell?, r4, bA, show i < (zL 32).length from hi]))
  have hsw1 : w.heap.size + 2 ≤ w1.heap.size := by have := hw1.size; omega
  clear P0 P1
  rcases A with _ | l
  · obtain rfl := h
    have hst : (storeCells ⟨w.heap.size, 0, none⟩ Z.toList).run Try.prog w1 = .ok () (w1.setRow w.heap.size Z) := by
      have := st_bA (l := zL 32) r1 hsz
      rw [← hZ.out] at this; exact this
    have r2 := hide1 (row_set (c' := Z) r1)
    clear r1
    go_wp2_with (refine wpList_load_mid rfl 40 (.tmp 4) rfl (w.heap.size + 1) 0 rfl ((zL 32).map (Value.int .u8)) _ q1.out Try.underlying40 rfl (by rw [List.length_map]; kernel_rfl) ?_; rw [show ((zL 32).map (Value.int .u8)).toArray = Z from hZ.out.symm])
    exact bodyPost_ret (results_ct rfl _ rfl rfl Try.underlying40 (by rw [hsz]; kernel_rfl) r2.out) rfl ⟨by rw [hZ.out]; rfl, bel_set (bl2 Pw hw1) (Nat.le_refl _)⟩
  · have hYl := hY l rfl
    clear hY
    obtain ⟨v, rfl, ho⟩ := h
    by_cases hl : l.length = 32
    · rw [hl] at ho
      obtain ⟨g, cp, rfl, hgb, -, hcm, hcl⟩ := owned_form ho (by omega)
      have hcm : cp ≤ 9223372036854775807 := by unfold maxLen at hcm; exact hcm
      have hl' := hide1 hl
      clear hl ho q1
      rw [hus] at hgb
      rw [show Z = bA (pz l 0) by rw [hZ.out, pz_0, hl'.out]] at r4
      have hwT := bl2 Pw hw1
      go_wp2_with fail
      go_loopw [7] (fun i wr => ∃ k : Nat, k ≤ 32 ∧ i = .int .i64 k ∧ wr.heap[w.heap.size + 1]? = some (.cells (bA (pz l k)) 40 (0, 0)) ∧ wr.heap[w.heap.size]? = some (.cells Z 40 (0, 0)) ∧ (∀ i, i < 32 → wr.cell? ⟨g, i, none⟩ = some (.int .u8 (l.getD i 0))) ∧ Below w.heap.size w wr) (fun i _ => 32 - (intOf i).toNat)
      case atStart => exact ⟨0, by omega, rfl, r4, r1, hcl, hwT⟩
      case round =>
        clear r4 r1 hcl hwT
        obtain ⟨k, hk, rfl, r4, r1, hcl, hwT⟩ := hrel
        by_cases hlt : k < 32
        · have c1 := hcl k hlt
          have c2 : wr.cell? ⟨w.heap.size + 1, k, none⟩ = some (.int .u8 ((pz l k).getD k 0)) := by
            have : k < (pz l k).length := by rw [pz_len l (by rw [hl'.out]; omega), hl'.out]; exact hlt
            simp [World.cell?, r4, bA, this]
          have f2 : wr.frozen? ⟨w.heap.size + 1, k, none⟩ = false := by simp [World.frozen?, r4]
          have r4' : (wr.setCell ⟨w.heap.size + 1, k, none⟩ (.int .u8 (l.getD k 0))).heap[w.heap.size + 1]? = some (.cells (bA (pz l (k + 1))) 40 (0, 0)) := by
            rw [← pz_s l (by rw [hl'.out]; exact hlt)]
            simp [World.setCell, r4, Array.getElem?_modify]
          have r1' : (wr.setCell ⟨w.heap.size + 1, k, none⟩ (.int .u8 (l.getD k 0))).heap[w.heap.size]? = some (.cells Z 40 (0, 0)) := by
            rw [Below.heap_setCell _ _ _ _ (by simp)]; exact r1
          have hcl' : ∀ i, i < 32 → (wr.setCell ⟨w.heap.size + 1, k, none⟩ (.int .u8 (l.getD k 0))).cell? ⟨g, i, none⟩ = some (.int .u8 (l.getD i 0)) := fun i hi => by
            rw [World.cell?_of_block (Below.heap_setCell _ _ _ _ (by simp; omega))]; exact hcl i hi
          have hwT' : Below w.heap.size w (wr.setCell ⟨w.heap.size + 1, k, none⟩ (.int .u8 (l.getD k 0))) := hwT.setCell (by simp) _
          replace r4' := hide1 r4'
          replace r1' := hide1 r1'
          replace hcl' := hide1 hcl'
          replace hwT' := hide1 hwT'
          clear r4 r1 hcl
          generalize l.getD k 0 = x at *
          generalize (pz l k).getD k 0 = y at *
          go_wp2_with fail
          go_roundw
          case rel => exact ⟨k + 1, by omega, by go_num, r4'.out, r1'.out, hcl'.out, hwT'.out⟩
          case measure => simp [intOf]; omega
        · obtain rfl : k = 32 := by omega
          rw [pz_all l hl'.out] at r4
          rw [show ((32 : Nat) : Int) = 32 from rfl]
          have q4 := hide1 (rng_bA (w := wr) (b := w.heap.size + 1) (l := l) (n := 32) hl'.out (fun i hi => by simp [World.cell?, r4, bA, show i < l.length by rw [hl'.out]; exact hi]))
          have hst : (storeCells ⟨w.heap.size, 0, none⟩ (bA l).toList).run Try.prog wr = .ok () (wr.setRow w.heap.size (bA l)) := st_bA r1 (hsz.trans hl'.out.symm)
          have r2 := hide1 (row_set (c' := bA l) r1)
          have zl : (bA l).size = 32 := by rw [bA_size, hl'.out]
          clear r1 r4 hcl
          obtain ⟨Y, hYY⟩ : ∃ Y, Hid (Y = bA l) := ⟨_, hide1 rfl⟩
          rw [← hYY.out] at hst r2 zl
          go_wp2_with (refine wpList_load_mid rfl 40 (.tmp 4) rfl (w.heap.size + 1) 0 rfl (l.map (Value.int .u8)) _ q4.out Try.underlying40 rfl (by rw [List.length_map, hl'.out]; kernel_rfl) ?_; rw [show (l.map (Value.int .u8)).toArray = Y from hYY.out.symm])
          exact bodyPost_ret (results_ct rfl _ rfl rfl Try.underlying40 (by rw [zl]; kernel_rfl) r2.out) rfl ⟨by rw [fx_yes hl'.out, hYY.out]; rfl, bel_set hwT (Nat.le_refl _)⟩
    · obtain ⟨a1, c1, rfl, -, -⟩ := bs_owned ho hYl
      clear ho
      have hst : (storeCells ⟨w.heap.size, 0, none⟩ Z.toList).run Try.prog w1 = .ok () (w1.setRow w.heap.size Z) := by
        have := st_bA (l := zL 32) r1 hsz
        rw [← hZ.out] at this; exact this
      have r2 := hide1 (row_set (c' := Z) r1)
      clear r1
      go_wp2_with (refine wpList_load_mid rfl 40 (.tmp 4) rfl (w.heap.size + 1) 0 rfl ((zL 32).map (Value.int .u8)) _ q1.out Try.underlying40 rfl (by rw [List.length_map]; kernel_rfl) ?_; rw [show ((zL 32).map (Value.int .u8)).toArray = Z from hZ.out.symm])
      exact bodyPost_ret (results_ct rfl _ rfl rfl Try.underlying40 (by rw [hsz]; kernel_rfl) r2.out) rfl ⟨by rw [hZ.out]; rw [fx_no hl]; rfl, bel_set (bl2 Pw hw1) (Nat.le_refl _)⟩
set_option maxHeartbeats 4000000 in
set_option maxRecDepth 100000 in
theorem rwide_d (zs : List Int) (hz : Byt zs) (hm : zs.length ≤ 100000) (w : World) :
    Calls Try.prog 24 #[.string (strOfNums zs)] w fun e w' => AnH 64 (fx 64 (d64 zs)) e ∧ Below w.heap.size w w' := by
  have H := fun w => refUnbase64_d zs hz hm w
  have hY : ∀ l, d64 zs = some l → Byt l := fun l h => (b64E_d64 zs l hz h).2
  generalize d64 zs = A at *
  generalize strOfNums zs = S at *
  clear hz
  have hzs : ∀ w : World, (zeroValue 44).run Try.prog w = .ok (.agg (bA (zL 64))) w := fun w => by kernel_rfl
  obtain ⟨Z, hZ⟩ : ∃ Z, Hid (Z = bA (zL 64)) := ⟨_, hide1 rfl⟩
  rw [← hZ.out] at hzs
  have hsz : Z.size = 64 := by rw [hZ.out]; rfl
  obtain ⟨u, hu⟩ : ∃ u, Hid (u = (w.alloc (.cells Z 44)).alloc (.cells Z 44)) := ⟨_, hide1 rfl⟩
  have hus : u.heap.size = w.heap.size + 2 := by rw [hu.out]; simp
  have P0 : u.heap[w.heap.size]? = some (.cells Z 44 (0, 0)) := by rw [hu.out, Below.heap_alloc _ _ _ (by simp)]; exact (MapKept.heap_alloc w _).1
  have P1 : u.heap[w.heap.size + 1]? = some (.cells Z 44 (0, 0)) := by
    rw [hu.out]
    have := (MapKept.heap_alloc (w.alloc (.cells Z 44)) (.cells Z 44)).1
    rwa [show (w.alloc (.cells Z 44)).heap.size = w.heap.size + 1 by simp] at this
  have Pw : Below w.heap.size w u := by rw [hu.out]; exact (below_one w _).alloc (by simp) _
  go_enter Try.func24, Try.ntmps24
  go_wp2_with fail
  rw [← hu.out]
  refine (H _).mono ?_
  rintro e w1 ⟨h, hw1⟩
  have r1 := (hw1.block w.heap.size (by omega)).trans P0
  have r4 := (hw1.block (w.heap.size + 1) (by omega)).trans P1
  have q1 := hide1 (rng_bA (w := w1) (b := w.heap.size + 1) (l := zL 64) (n := 64) rfl (fun i hi => by rw [hZ.out] at r4; simp [World.cell?, r4, bA, show i < (zL 64).length from hi]))
  have hsw1 : w.heap.size + 2 ≤ w1.heap.size := by have := hw1.size; omega
  clear P0 P1
  rcases A with _ | l
  · obtain rfl := h
    have hst : (storeCells ⟨w.heap.size, 0, none⟩ Z.toList).run Try.prog w1 = .ok () (w1.setRow w.heap.size Z) := by
      have := st_bA (l := zL 64) r1 hsz
      rw [← hZ.out] at this; exact this
    have r2 := hide1 (row_set (c' := Z) r1)
    clear r1
    go_wp2_with (refine wpList_load_mid rfl 44 (.tmp 4) rfl (w.heap.size + 1) 0 rfl ((zL 64).map (Value.int .u8)) _ q1.out Try.underlying44 rfl (by rw [List.length_map]; kernel_rfl) ?_; rw [show ((zL 64).map (Value.int .u8)).toArray = Z from hZ.out.symm])
    exact bodyPost_ret (results_ct rfl _ rfl rfl Try.underlying44 (by rw [hsz]; kernel_rfl) r2.out) rfl ⟨by rw [hZ.out]; rfl, bel_set (bl2 Pw hw1) (Nat.le_refl _)⟩
  · have hYl := hY l rfl
    clear hY
    obtain ⟨v, rfl, ho⟩ := h
    by_cases hl : l.length = 64
    · rw [hl] at ho
      obtain ⟨g, cp, rfl, hgb, -, hcm, hcl⟩ := owned_form ho (by omega)
      have hcm : cp ≤ 9223372036854775807 := by unfold maxLen at hcm; exact hcm
      have hl' := hide1 hl
      clear hl ho q1
      rw [hus] at hgb
      rw [show Z = bA (pz l 0) by rw [hZ.out, pz_0, hl'.out]] at r4
      have hwT := bl2 Pw hw1
      go_wp2_with fail
      go_loopw [7] (fun i wr => ∃ k : Nat, k ≤ 64 ∧ i = .int .i64 k ∧ wr.heap[w.heap.size + 1]? = some (.cells (bA (pz l k)) 44 (0, 0)) ∧ wr.heap[w.heap.size]? = some (.cells Z 44 (0, 0)) ∧ (∀ i, i < 64 → wr.cell? ⟨g, i, none⟩ = some (.int .u8 (l.getD i 0))) ∧ Below w.heap.size w wr) (fun i _ => 64 - (intOf i).toNat)
      case atStart => exact ⟨0, by omega, rfl, r4, r1, hcl, hwT⟩
      case round =>
        clear r4 r1 hcl hwT
        obtain ⟨k, hk, rfl, r4, r1, hcl, hwT⟩ := hrel
        by_cases hlt : k < 64
        · have c1 := hcl k hlt
          have c2 : wr.cell? ⟨w.heap.size + 1, k, none⟩ = some (.int .u8 ((pz l k).getD k 0)) := by
            have : k < (pz l k).length := by rw [pz_len l (by rw [hl'.out]; omega), hl'.out]; exact hlt
            simp [World.cell?, r4, bA, this]
          have f2 : wr.frozen? ⟨w.heap.size + 1, k, none⟩ = false := by simp [World.frozen?, r4]
          have r4' : (wr.setCell ⟨w.heap.size + 1, k, none⟩ (.int .u8 (l.getD k 0))).heap[w.heap.size + 1]? = some (.cells (bA (pz l (k + 1))) 44 (0, 0)) := by
            rw [← pz_s l (by rw [hl'.out]; exact hlt)]
            simp [World.setCell, r4, Array.getElem?_modify]
          have r1' : (wr.setCell ⟨w.heap.size + 1, k, none⟩ (.int .u8 (l.getD k 0))).heap[w.heap.size]? = some (.cells Z 44 (0, 0)) := by
            rw [Below.heap_setCell _ _ _ _ (by simp)]; exact r1
          have hcl' : ∀ i, i < 64 → (wr.setCell ⟨w.heap.size + 1, k, none⟩ (.int .u8 (l.getD k 0))).cell? ⟨g, i, none⟩ = some (.int .u8 (l.getD i 0)) := fun i hi => by
            rw [World.cell?_of_block (Below.heap_setCell _ _ _ _ (by simp; omega))]; exact hcl i hi
          have hwT' : Below w.heap.size w (wr.setCell ⟨w.heap.size + 1, k, none⟩ (.int .u8 (l.getD k 0))) := hwT.setCell (by simp) _
          replace r4' := hide1 r4'
          replace r1' := hide1 r1'
          replace hcl' := hide1 hcl'
          replace hwT' := hide1 hwT'
          clear r4 r1 hcl
          generalize l.getD k 0 = x at *
          generalize (pz l k).getD k 0 = y at *
          go_wp2_with fail
          go_roundw
          case rel => exact ⟨k + 1, by omega, by go_num, r4'.out, r1'.out, hcl'.out, hwT'.out⟩
          case measure => simp [intOf]; omega
        · obtain rfl : k = 64 := by omega
          rw [pz_all l hl'.out] at r4
          rw [show ((64 : Nat) : Int) = 64 from rfl]
          have q4 := hide1 (rng_bA (w := wr) (b := w.heap.size + 1) (l := l) (n := 64) hl'.out (fun i hi => by simp [World.cell?, r4, bA, show i < l.length by rw [hl'.out]; exact hi]))
          have hst : (storeCells ⟨w.heap.size, 0, none⟩ (bA l).toList).run Try.prog wr = .ok () (wr.setRow w.heap.size (bA l)) := st_bA r1 (hsz.trans hl'.out.symm)
          have r2 := hide1 (row_set (c' := bA l) r1)
          have zl : (bA l).size = 64 := by rw [bA_size, hl'.out]
          clear r1 r4 hcl
          obtain ⟨Y, hYY⟩ : ∃ Y, Hid (Y = bA l) := ⟨_, hide1 rfl⟩
          rw [← hYY.out] at hst r2 zl
          go_wp2_with (refine wpList_load_mid rfl 44 (.tmp 4) rfl (w.heap.size + 1) 0 rfl (l.map (Value.int .u8)) _ q4.out Try.underlying44 rfl (by rw [List.length_map, hl'.out]; kernel_rfl) ?_; rw [show (l.map (Value.int .u8)).toArray = Y from hYY.out.symm])
          exact bodyPost_ret (results_ct rfl _ rfl rfl Try.underlying44 (by rw [zl]; kernel_rfl) r2.out) rfl ⟨by rw [fx_yes hl'.out, hYY.out]; rfl, bel_set hwT (Nat.le_refl _)⟩
    · obtain ⟨a1, c1, rfl, -, -⟩ := bs_owned ho hYl
      clear ho
      have hst : (storeCells ⟨w.heap.size, 0, none⟩ Z.toList).run Try.prog w1 = .ok () (w1.setRow w.heap.size Z) := by
        have := st_bA (l := zL 64) r1 hsz
        rw [← hZ.out] at this; exact this
      have r2 := hide1 (row_set (c' := Z) r1)
      clear r1
      go_wp2_with (refine wpList_load_mid rfl 44 (.tmp 4) rfl (w.heap.size + 1) 0 rfl ((zL 64).map (Value.int .u8)) _ q1.out Try.underlying44 rfl (by rw [List.length_map]; kernel_rfl) ?_; rw [show ((zL 64).map (Value.int .u8)).toArray = Z from hZ.out.symm])
      exact bodyPost_ret (results_ct rfl _ rfl rfl Try.underlying44 (by rw [hsz]; kernel_rfl) r2.out) rfl ⟨by rw [hZ.out]; rw [fx_no hl]; rfl, bel_set (bl2 Pw hw1) (Nat.le_refl _)⟩
end Go.Proofs.Ytmbjdegfgidadaa

namespace Go.Proofs.Ytmbjdegfgidadaa
open Go.RowKit

theorem run_items {P : Program} (e : TypeId) (k k' : IntKind) (hag : ∀ w, (isAgg e).run P w = .ok false w) (he : P.underlying e = some (.int k')) (X Y : Array Value) (x y : Nat → Int) (d : Nat) (w : World) :
    ∀ is : List Nat, (∀ i ∈ is, X[i]? = some (.int k (x i))) → (∀ i ∈ is, Y[i]? = some (.int k (y i))) →
      (Op.eqItems (d + 1) e 1 X Y is).run P w = .ok (decide (∀ i ∈ is, x i = y i)) w := by
  intro is
  induction is with
  | nil => intro _ _; simp [Op.eqItems]
  | cons i is ih =>
    intro hx hy
    have h1 := hx i (by simp); have h2 := hy i (by simp)
    have ih' := ih (fun j hj => hx j (by simp [hj])) (fun j hj => hy j (by simp [hj]))
    simp only [Op.eqItems, part, Sem.run_bind, hag, Result.andThen_ok, Nat.mul_one, h1, h2, Bool.false_eq_true, if_false, Sem.run_pure, run_equalIn_int w d e k k' _ _ he]
    by_cases hxy : x i = y i
    · simp only [hxy, beq_self_eq_true, Bool.not_true, Bool.false_eq_true, if_false, ih']
      simp [hxy]
    · have : (x i == y i) = false := by simp [hxy]
      simp only [this, Bool.not_false, if_true, Sem.run_pure]
      simp [hxy]

theorem eq_ints {P : Program} {t e n : Nat} {k k' : IntKind} {inf : TypeInfo} (hu : P.underlying t = some (.array n e)) (hi : P.info? e = some inf) (hc : P.cellsOf e = 1) (he : P.underlying e = some (.int k')) (hag : ∀ w, (isAgg e).run P w = .ok false w)
    (X Y : Array Value) (x y : Nat → Int) (hx : ∀ i, i < n → X[i]? = some (.int k (x i))) (hy : ∀ i, i < n → Y[i]? = some (.int k (y i))) (w : World) :
    (Op.equalIn 10000 t (.agg X) (.agg Y)).run P w = .ok (decide (∀ i, i < n → x i = y i)) w := by
  have h := run_equalIn_array w 9999 X Y hu hi
  rw [show (10000 : Nat) = 9999 + 1 from rfl, h, hc, run_items e k k' hag he X Y x y 9998 w (List.range n) (fun i hi => hx i (by simpa using hi)) (fun i hi => hy i (by simpa using hi))]
  congr 1
  simp
end Go.Proofs.Ytmbjdegfgidadaa

namespace Go.Proofs.Ytmbjdegfgidadaa
open Go.RowKit Go.Maps

def erV : Bool → Value
  | true => .nilIface
  | false => .iface 37 (.int .i64 1)
theorem anf (n : Nat) (o : Option (List Int)) (h : ∀ l, o = some l → l.length = n) : ∃ lx ok, lx.length = n ∧ (∀ e, AnF n o e → e = .returned (.tuple #[.agg (bA lx), erV ok])) ∧ ∀ e, AnH n o e → e = .returned (.tuple #[.agg (bA lx), .bool ok]) := by
  rcases o with _ | l
  · exact ⟨zL n, false, by simp [zL], fun _ h => h, fun _ h => h⟩
  · exact ⟨l, true, h l rfl, fun _ h => h, fun _ h => h⟩
theorem fx_len {n : Nat} {o : Option (List Int)} : ∀ l, fx n o = some l → l.length = n := by
  intro l h
  rcases o with _ | m
  · cases h
  · by_cases e : m.length = n
    · rw [fx_yes e] at h; cases h; exact e
    · rw [fx_no e] at h; cases h
theorem eq_bA {t n : Nat} {l : List Int} (hu : Try.prog.underlying t = some (.array n 5)) (hl : l.length = n) (w : World) : (Op.equalIn 10000 t (.agg (bA l)) (.agg (bA l))).run Try.prog w = .ok true w := by
  have hg : ∀ i, i < n → (bA l)[i]? = some (.int .u8 (l.getD i 0)) := fun i hi => by simp [bA, show i < l.length by omega]
  have h := eq_ints (P := Try.prog) (t := t) (e := 5) (n := n) (k := .u8) (k' := .u8) hu (inf := _) rfl (by kernel_rfl) Try.underlying5 (fun _ => by kernel_rfl) (bA l) (bA l) (fun i => l.getD i 0) (fun i => l.getD i 0) hg hg w
  rw [h, decide_eq_true fun _ _ => rfl]
theorem wpList_load_w {ops : Array Oper} {rest : List Oper} {op : Oper} {a : Act} {w : World} {Q : Exit → Act → World → Prop} (hgd : Region.wanted op (yielded ops a.tmps) = true) (ty : TypeId) (x : Operand) (ho : op.op = .load ty x)
    (b o : Nat) (hx : a.eval x = .pointer (some ⟨b, o, none⟩)) (cs : List Value) (d : TypeDesc) (hc : w.rangeAt b o cs)
    (hu : Try.prog.underlying ty = some d) (hd : d.isRow = true) (hi : (Try.prog.info? ty).map (·.size) = some cs.length)
    (h : wpList Try.prog ops Q rest (a.put op.dst (.agg cs.toArray)) w) : wpList Try.prog ops Q (op :: rest) a w := by
  refine wpList_step fun K hK => ?_
  rw [if_pos hgd]
  exact wp_load_mid ty x ho b o hx cs d hc hu hd hi (hK _ _ h)

set_option maxHeartbeats 8000000 in
set_option maxRecDepth 100000 in
theorem fixed_walk (zs : List Int) (hz : Byt zs) (w : World) :
    Calls Try.prog 5 #[.string (strOfNums zs)] w fun e w' => e = .returned (.bool true) ∧ Below w.heap.size w w' := by
  have hsz := str_size zs
  go_enter Try.func5, Try.ntmps5
  go_wp2_with fail
  refine (alive_t _).mono ?_
  rintro e w1 ⟨rfl, hw1⟩
  by_cases hL : 5000 < zs.length
  · go_wp2_with fail
    go_ret
    exact ⟨rfl, hw1⟩
  have hL' : zs.length ≤ 5000 := by omega
  obtain ⟨lx, okx, hlx, F1, F3⟩ := anf 32 (fx 32 (ga4 .z zs)) fx_len
  obtain ⟨ly, oky, hly, F2, F4⟩ := anf 64 (fx 64 (d64 zs)) fx_len
  have H1 := fun w => (sum_d zs hz (by omega) w).mono fun e w' h => (⟨F1 e h.1, h.2⟩ : e = .returned (.tuple #[.agg (bA lx), erV okx]) ∧ Below w.heap.size w w')
  have H2 := fun w => (wide_d zs hz (by omega) w).mono fun e w' h => (⟨F2 e h.1, h.2⟩ : e = .returned (.tuple #[.agg (bA ly), erV oky]) ∧ Below w.heap.size w w')
  have H3 := fun w => (rsum_d zs hz (by omega) w).mono fun e w' h => (⟨F3 e h.1, h.2⟩ : e = .returned (.tuple #[.agg (bA lx), .bool okx]) ∧ Below w.heap.size w w')
  have H4 := fun w => (rwide_d zs hz (by omega) w).mono fun e w' h => (⟨F4 e h.1, h.2⟩ : e = .returned (.tuple #[.agg (bA ly), .bool oky]) ∧ Below w.heap.size w w')
  clear F1 F2 F3 F4
  generalize strOfNums zs = S at *
  generalize zs.length = len at *
  clear hz
  have hz40 : ∀ w : World, (zeroValue 40).run Try.prog w = .ok (.agg (bA (zL 32))) w := fun w => by kernel_rfl
  have hz44 : ∀ w : World, (zeroValue 44).run Try.prog w = .ok (.agg (bA (zL 64))) w := fun w => by kernel_rfl
  have st40 : ∀ w : World, (storeCells ⟨w.heap.size, 0, none⟩ (bA lx).toList).run Try.prog (w.alloc (.cells (bA (zL 32)) 40)) = .ok () (w.alloc (.cells (bA lx) 40)) := fun w => by
    rw [st_bA (MapKept.heap_alloc w _).1 (by rw [hlx]; rfl), World.setRow_alloc_new]
  have st44 : ∀ w : World, (storeCells ⟨w.heap.size, 0, none⟩ (bA ly).toList).run Try.prog (w.alloc (.cells (bA (zL 64)) 44)) = .ok () (w.alloc (.cells (bA ly) 44)) := fun w => by
    rw [st_bA (MapKept.heap_alloc w _).1 (by rw [hly]; rfl), World.setRow_alloc_new]
  have E40 := fun w => eq_bA (l := lx) Try.underlying40 hlx w
  have E44 := fun w => eq_bA (l := ly) Try.underlying44 hly w
  have R40 : ∀ (w : World) (b : Nat), w.heap[b]? = some (.cells (bA lx) 40 (0, 0)) → w.rangeAt b 0 (lx.map (Value.int .u8)) := fun w b h => rng_bA hlx fun i hi => by simp [World.cell?, h, bA, show i < lx.length by omega]
  have R44 : ∀ (w : World) (b : Nat), w.heap[b]? = some (.cells (bA ly) 44 (0, 0)) → w.rangeAt b 0 (ly.map (Value.int .u8)) := fun w b h => rng_bA hly fun i hi => by simp [World.cell?, h, bA, show i < ly.length by omega]
  have z40 : (bA lx).size = 32 := by rw [bA_size, hlx]
  have z44 : (bA ly).size = 64 := by rw [bA_size, hly]
  obtain ⟨X, hX⟩ : ∃ X, Hid (X = bA lx) := ⟨_, hide1 rfl⟩
  obtain ⟨Y, hY⟩ : ∃ Y, Hid (Y = bA ly) := ⟨_, hide1 rfl⟩
  rw [← hX.out] at st40 E40 R40 H1 H3 z40
  rw [← hY.out] at st44 E44 R44 H2 H4 z44
  have hlx := hide1 hlx
  have hly := hide1 hly
  generalize bA (zL 32) = Z at *
  generalize bA (zL 64) = Z' at *
  rcases okx with _ | _ <;> rcases oky with _ | _
  · simp only [erV] at H1 H2
    have hv1 := hw1
    clear hw1
    go_wp2_with fail
    refine (H1 _).mono ?_
    rintro e w2 ⟨rfl, hw2⟩
    clear H1
    have hv2 := bl2 hv1 hw2
    clear hv1 hw2
    have r1 := (MapKept.heap_alloc w2 (.cells X 40)).1
    have hq2 := hv2.alloc hv2.size (.cells X 40)
    go_wp2_with fail
    refine (H2 _).mono ?_
    rintro e w3 ⟨rfl, hw3⟩
    clear H2
    replace r1 := (hw3.block _ (Array.getElem?_eq_some_iff.1 r1).1).trans r1
    have hv3 := hq2.trans (hw3.mono hq2.size)
    clear hq2 hv2 hw3
    have r2 := (MapKept.heap_alloc w3 (.cells Y 44)).1
    have hq3 := hv3.alloc hv3.size (.cells Y 44)
    replace r1 := (Below.heap_alloc w3 (.cells Y 44) _ (Array.getElem?_eq_some_iff.1 r1).1).trans r1
    go_wp2_with fail
    refine (H3 _).mono ?_
    rintro e w4 ⟨rfl, hw4⟩
    clear H3
    replace r1 := (hw4.block _ (Array.getElem?_eq_some_iff.1 r1).1).trans r1
    replace r2 := (hw4.block _ (Array.getElem?_eq_some_iff.1 r2).1).trans r2
    have hv4 := hq3.trans (hw4.mono hq3.size)
    clear hq3 hv3 hw4
    have r3 := (MapKept.heap_alloc w4 (.cells X 40)).1
    have hq4 := hv4.alloc hv4.size (.cells X 40)
    replace r1 := (Below.heap_alloc w4 (.cells X 40) _ (Array.getElem?_eq_some_iff.1 r1).1).trans r1
    replace r2 := (Below.heap_alloc w4 (.cells X 40) _ (Array.getElem?_eq_some_iff.1 r2).1).trans r2
    go_wp2_with fail
    refine (H4 _).mono ?_
    rintro e w5 ⟨rfl, hw5⟩
    clear H4
    replace r1 := (hw5.block _ (Array.getElem?_eq_some_iff.1 r1).1).trans r1
    replace r2 := (hw5.block _ (Array.getElem?_eq_some_iff.1 r2).1).trans r2
    replace r3 := (hw5.block _ (Array.getElem?_eq_some_iff.1 r3).1).trans r3
    have hv5 := hq4.trans (hw5.mono hq4.size)
    clear hq4 hv4 hw5
    have r4 := (MapKept.heap_alloc w5 (.cells Y 44)).1
    have hq5 := hv5.alloc hv5.size (.cells Y 44)
    replace r1 := (Below.heap_alloc w5 (.cells Y 44) _ (Array.getElem?_eq_some_iff.1 r1).1).trans r1
    replace r2 := (Below.heap_alloc w5 (.cells Y 44) _ (Array.getElem?_eq_some_iff.1 r2).1).trans r2
    replace r3 := (Below.heap_alloc w5 (.cells Y 44) _ (Array.getElem?_eq_some_iff.1 r3).1).trans r3
    generalize hb9 : w5.heap.size = b9 at *
    have q1 := R40 _ _ r1
    have q3 := R40 _ _ r3
    have q2 := R44 _ _ r2
    have q4 := R44 _ _ r4
    have q1 := hide1 q1
    have q2 := hide1 q2
    have q3 := hide1 q3
    have q4 := hide1 q4
    clear R40 R44 r1 r2 r3 r4
    subst hb9
    go_wp2_with (first
      | (refine wpList_load_w (by first | rfl | (simp [Region.wanted, yielded]; done)) 40 (.tmp 3) rfl _ 0 rfl (lx.map (Value.int .u8)) _ q1.out Try.underlying40 rfl (by rw [List.length_map, hlx.out]; kernel_rfl) ?_; rw [show (lx.map (Value.int .u8)).toArray = X from hX.out.symm])
      | (refine wpList_load_w (by first | rfl | (simp [Region.wanted, yielded]; done)) 40 (.tmp 7) rfl _ 0 rfl (lx.map (Value.int .u8)) _ q3.out Try.underlying40 rfl (by rw [List.length_map, hlx.out]; kernel_rfl) ?_; rw [show (lx.map (Value.int .u8)).toArray = X from hX.out.symm])
      | (refine wpList_load_w (by first | rfl | (simp [Region.wanted, yielded]; done)) 44 (.tmp 5) rfl _ 0 rfl (ly.map (Value.int .u8)) _ q2.out Try.underlying44 rfl (by rw [List.length_map, hly.out]; kernel_rfl) ?_; rw [show (ly.map (Value.int .u8)).toArray = Y from hY.out.symm])
      | (refine wpList_load_w (by first | rfl | (simp [Region.wanted, yielded]; done)) 44 (.tmp 9) rfl _ 0 rfl (ly.map (Value.int .u8)) _ q4.out Try.underlying44 rfl (by rw [List.length_map, hly.out]; kernel_rfl) ?_; rw [show (ly.map (Value.int .u8)).toArray = Y from hY.out.symm]))
    refine (is_one _).mono ?_
    rintro e w6 ⟨rfl, rfl⟩
    go_wp2_with fail
    refine (is_one _).mono ?_
    rintro e w6 ⟨rfl, rfl⟩
    go_wp2_with fail
    go_ret
    exact ⟨rfl, hq5⟩
  · simp only [erV] at H1 H2
    have hv1 := hw1
    clear hw1
    go_wp2_with fail
    refine (H1 _).mono ?_
    rintro e w2 ⟨rfl, hw2⟩
    clear H1
    have hv2 := bl2 hv1 hw2
    clear hv1 hw2
    have r1 := (MapKept.heap_alloc w2 (.cells X 40)).1
    have hq2 := hv2.alloc hv2.size (.cells X 40)
    go_wp2_with fail
    refine (H2 _).mono ?_
    rintro e w3 ⟨rfl, hw3⟩
    clear H2
    replace r1 := (hw3.block _ (Array.getElem?_eq_some_iff.1 r1).1).trans r1
    have hv3 := hq2.trans (hw3.mono hq2.size)
    clear hq2 hv2 hw3
    have r2 := (MapKept.heap_alloc w3 (.cells Y 44)).1
    have hq3 := hv3.alloc hv3.size (.cells Y 44)
    replace r1 := (Below.heap_alloc w3 (.cells Y 44) _ (Array.getElem?_eq_some_iff.1 r1).1).trans r1
    go_wp2_with fail
    refine (H3 _).mono ?_
    rintro e w4 ⟨rfl, hw4⟩
    clear H3
    replace r1 := (hw4.block _ (Array.getElem?_eq_some_iff.1 r1).1).trans r1
    replace r2 := (hw4.block _ (Array.getElem?_eq_some_iff.1 r2).1).trans r2
    have hv4 := hq3.trans (hw4.mono hq3.size)
    clear hq3 hv3 hw4
    have r3 := (MapKept.heap_alloc w4 (.cells X 40)).1
    have hq4 := hv4.alloc hv4.size (.cells X 40)
    replace r1 := (Below.heap_alloc w4 (.cells X 40) _ (Array.getElem?_eq_some_iff.1 r1).1).trans r1
    replace r2 := (Below.heap_alloc w4 (.cells X 40) _ (Array.getElem?_eq_some_iff.1 r2).1).trans r2
    go_wp2_with fail
    refine (H4 _).mono ?_
    rintro e w5 ⟨rfl, hw5⟩
    clear H4
    replace r1 := (hw5.block _ (Array.getElem?_eq_some_iff.1 r1).1).trans r1
    replace r2 := (hw5.block _ (Array.getElem?_eq_some_iff.1 r2).1).trans r2
    replace r3 := (hw5.block _ (Array.getElem?_eq_some_iff.1 r3).1).trans r3
    have hv5 := hq4.trans (hw5.mono hq4.size)
    clear hq4 hv4 hw5
    have r4 := (MapKept.heap_alloc w5 (.cells Y 44)).1
    have hq5 := hv5.alloc hv5.size (.cells Y 44)
    replace r1 := (Below.heap_alloc w5 (.cells Y 44) _ (Array.getElem?_eq_some_iff.1 r1).1).trans r1
    replace r2 := (Below.heap_alloc w5 (.cells Y 44) _ (Array.getElem?_eq_some_iff.1 r2).1).trans r2
    replace r3 := (Below.heap_alloc w5 (.cells Y 44) _ (Array.getElem?_eq_some_iff.1 r3).1).trans r3
    generalize hb9 : w5.heap.size = b9 at *
    have q1 := R40 _ _ r1
    have q3 := R40 _ _ r3
    have q2 := R44 _ _ r2
    have q4 := R44 _ _ r4
    have q1 := hide1 q1
    have q2 := hide1 q2
    have q3 := hide1 q3
    have q4 := hide1 q4
    clear R40 R44 r1 r2 r3 r4
    subst hb9
    go_wp2_with (first
      | (refine wpList_load_w (by first | rfl | (simp [Region.wanted, yielded]; done)) 40 (.tmp 3) rfl _ 0 rfl (lx.map (Value.int .u8)) _ q1.out Try.underlying40 rfl (by rw [List.length_map, hlx.out]; kernel_rfl) ?_; rw [show (lx.map (Value.int .u8)).toArray = X from hX.out.symm])
      | (refine wpList_load_w (by first | rfl | (simp [Region.wanted, yielded]; done)) 40 (.tmp 7) rfl _ 0 rfl (lx.map (Value.int .u8)) _ q3.out Try.underlying40 rfl (by rw [List.length_map, hlx.out]; kernel_rfl) ?_; rw [show (lx.map (Value.int .u8)).toArray = X from hX.out.symm])
      | (refine wpList_load_w (by first | rfl | (simp [Region.wanted, yielded]; done)) 44 (.tmp 5) rfl _ 0 rfl (ly.map (Value.int .u8)) _ q2.out Try.underlying44 rfl (by rw [List.length_map, hly.out]; kernel_rfl) ?_; rw [show (ly.map (Value.int .u8)).toArray = Y from hY.out.symm])
      | (refine wpList_load_w (by first | rfl | (simp [Region.wanted, yielded]; done)) 44 (.tmp 9) rfl _ 0 rfl (ly.map (Value.int .u8)) _ q4.out Try.underlying44 rfl (by rw [List.length_map, hly.out]; kernel_rfl) ?_; rw [show (ly.map (Value.int .u8)).toArray = Y from hY.out.symm]))
    refine (is_one _).mono ?_
    rintro e w6 ⟨rfl, rfl⟩
    go_wp2_with fail
    go_ret
    exact ⟨rfl, hq5⟩
  · simp only [erV] at H1 H2
    have hv1 := hw1
    clear hw1
    go_wp2_with fail
    refine (H1 _).mono ?_
    rintro e w2 ⟨rfl, hw2⟩
    clear H1
    have hv2 := bl2 hv1 hw2
    clear hv1 hw2
    have r1 := (MapKept.heap_alloc w2 (.cells X 40)).1
    have hq2 := hv2.alloc hv2.size (.cells X 40)
    go_wp2_with fail
    refine (H2 _).mono ?_
    rintro e w3 ⟨rfl, hw3⟩
    clear H2
    replace r1 := (hw3.block _ (Array.getElem?_eq_some_iff.1 r1).1).trans r1
    have hv3 := hq2.trans (hw3.mono hq2.size)
    clear hq2 hv2 hw3
    have r2 := (MapKept.heap_alloc w3 (.cells Y 44)).1
    have hq3 := hv3.alloc hv3.size (.cells Y 44)
    replace r1 := (Below.heap_alloc w3 (.cells Y 44) _ (Array.getElem?_eq_some_iff.1 r1).1).trans r1
    go_wp2_with fail
    refine (H3 _).mono ?_
    rintro e w4 ⟨rfl, hw4⟩
    clear H3
    replace r1 := (hw4.block _ (Array.getElem?_eq_some_iff.1 r1).1).trans r1
    replace r2 := (hw4.block _ (Array.getElem?_eq_some_iff.1 r2).1).trans r2
    have hv4 := hq3.trans (hw4.mono hq3.size)
    clear hq3 hv3 hw4
    have r3 := (MapKept.heap_alloc w4 (.cells X 40)).1
    have hq4 := hv4.alloc hv4.size (.cells X 40)
    replace r1 := (Below.heap_alloc w4 (.cells X 40) _ (Array.getElem?_eq_some_iff.1 r1).1).trans r1
    replace r2 := (Below.heap_alloc w4 (.cells X 40) _ (Array.getElem?_eq_some_iff.1 r2).1).trans r2
    go_wp2_with fail
    refine (H4 _).mono ?_
    rintro e w5 ⟨rfl, hw5⟩
    clear H4
    replace r1 := (hw5.block _ (Array.getElem?_eq_some_iff.1 r1).1).trans r1
    replace r2 := (hw5.block _ (Array.getElem?_eq_some_iff.1 r2).1).trans r2
    replace r3 := (hw5.block _ (Array.getElem?_eq_some_iff.1 r3).1).trans r3
    have hv5 := hq4.trans (hw5.mono hq4.size)
    clear hq4 hv4 hw5
    have r4 := (MapKept.heap_alloc w5 (.cells Y 44)).1
    have hq5 := hv5.alloc hv5.size (.cells Y 44)
    replace r1 := (Below.heap_alloc w5 (.cells Y 44) _ (Array.getElem?_eq_some_iff.1 r1).1).trans r1
    replace r2 := (Below.heap_alloc w5 (.cells Y 44) _ (Array.getElem?_eq_some_iff.1 r2).1).trans r2
    replace r3 := (Below.heap_alloc w5 (.cells Y 44) _ (Array.getElem?_eq_some_iff.1 r3).1).trans r3
    generalize hb9 : w5.heap.size = b9 at *
    have q1 := R40 _ _ r1
    have q3 := R40 _ _ r3
    have q2 := R44 _ _ r2
    have q4 := R44 _ _ r4
    have q1 := hide1 q1
    have q2 := hide1 q2
    have q3 := hide1 q3
    have q4 := hide1 q4
    clear R40 R44 r1 r2 r3 r4
    subst hb9
    go_wp2_with (first
      | (refine wpList_load_w (by first | rfl | (simp [Region.wanted, yielded]; done)) 40 (.tmp 3) rfl _ 0 rfl (lx.map (Value.int .u8)) _ q1.out Try.underlying40 rfl (by rw [List.length_map, hlx.out]; kernel_rfl) ?_; rw [show (lx.map (Value.int .u8)).toArray = X from hX.out.symm])
      | (refine wpList_load_w (by first | rfl | (simp [Region.wanted, yielded]; done)) 40 (.tmp 7) rfl _ 0 rfl (lx.map (Value.int .u8)) _ q3.out Try.underlying40 rfl (by rw [List.length_map, hlx.out]; kernel_rfl) ?_; rw [show (lx.map (Value.int .u8)).toArray = X from hX.out.symm])
      | (refine wpList_load_w (by first | rfl | (simp [Region.wanted, yielded]; done)) 44 (.tmp 5) rfl _ 0 rfl (ly.map (Value.int .u8)) _ q2.out Try.underlying44 rfl (by rw [List.length_map, hly.out]; kernel_rfl) ?_; rw [show (ly.map (Value.int .u8)).toArray = Y from hY.out.symm])
      | (refine wpList_load_w (by first | rfl | (simp [Region.wanted, yielded]; done)) 44 (.tmp 9) rfl _ 0 rfl (ly.map (Value.int .u8)) _ q4.out Try.underlying44 rfl (by rw [List.length_map, hly.out]; kernel_rfl) ?_; rw [show (ly.map (Value.int .u8)).toArray = Y from hY.out.symm]))
    refine (is_one _).mono ?_
    rintro e w6 ⟨rfl, rfl⟩
    go_wp2_with fail
    go_ret
    exact ⟨rfl, hq5⟩
  · simp only [erV] at H1 H2
    have hv1 := hw1
    clear hw1
    go_wp2_with fail
    refine (H1 _).mono ?_
    rintro e w2 ⟨rfl, hw2⟩
    clear H1
    have hv2 := bl2 hv1 hw2
    clear hv1 hw2
    have r1 := (MapKept.heap_alloc w2 (.cells X 40)).1
    have hq2 := hv2.alloc hv2.size (.cells X 40)
    go_wp2_with fail
    refine (H2 _).mono ?_
    rintro e w3 ⟨rfl, hw3⟩
    clear H2
    replace r1 := (hw3.block _ (Array.getElem?_eq_some_iff.1 r1).1).trans r1
    have hv3 := hq2.trans (hw3.mono hq2.size)
    clear hq2 hv2 hw3
    have r2 := (MapKept.heap_alloc w3 (.cells Y 44)).1
    have hq3 := hv3.alloc hv3.size (.cells Y 44)
    replace r1 := (Below.heap_alloc w3 (.cells Y 44) _ (Array.getElem?_eq_some_iff.1 r1).1).trans r1
    go_wp2_with fail
    refine (H3 _).mono ?_
    rintro e w4 ⟨rfl, hw4⟩
    clear H3
    replace r1 := (hw4.block _ (Array.getElem?_eq_some_iff.1 r1).1).trans r1
    replace r2 := (hw4.block _ (Array.getElem?_eq_some_iff.1 r2).1).trans r2
    have hv4 := hq3.trans (hw4.mono hq3.size)
    clear hq3 hv3 hw4
    have r3 := (MapKept.heap_alloc w4 (.cells X 40)).1
    have hq4 := hv4.alloc hv4.size (.cells X 40)
    replace r1 := (Below.heap_alloc w4 (.cells X 40) _ (Array.getElem?_eq_some_iff.1 r1).1).trans r1
    replace r2 := (Below.heap_alloc w4 (.cells X 40) _ (Array.getElem?_eq_some_iff.1 r2).1).trans r2
    go_wp2_with fail
    refine (H4 _).mono ?_
    rintro e w5 ⟨rfl, hw5⟩
    clear H4
    replace r1 := (hw5.block _ (Array.getElem?_eq_some_iff.1 r1).1).trans r1
    replace r2 := (hw5.block _ (Array.getElem?_eq_some_iff.1 r2).1).trans r2
    replace r3 := (hw5.block _ (Array.getElem?_eq_some_iff.1 r3).1).trans r3
    have hv5 := hq4.trans (hw5.mono hq4.size)
    clear hq4 hv4 hw5
    have r4 := (MapKept.heap_alloc w5 (.cells Y 44)).1
    have hq5 := hv5.alloc hv5.size (.cells Y 44)
    replace r1 := (Below.heap_alloc w5 (.cells Y 44) _ (Array.getElem?_eq_some_iff.1 r1).1).trans r1
    replace r2 := (Below.heap_alloc w5 (.cells Y 44) _ (Array.getElem?_eq_some_iff.1 r2).1).trans r2
    replace r3 := (Below.heap_alloc w5 (.cells Y 44) _ (Array.getElem?_eq_some_iff.1 r3).1).trans r3
    generalize hb9 : w5.heap.size = b9 at *
    have q1 := R40 _ _ r1
    have q3 := R40 _ _ r3
    have q2 := R44 _ _ r2
    have q4 := R44 _ _ r4
    have q1 := hide1 q1
    have q2 := hide1 q2
    have q3 := hide1 q3
    have q4 := hide1 q4
    clear R40 R44 r1 r2 r3 r4
    subst hb9
    go_wp2_with (first
      | (refine wpList_load_w (by first | rfl | (simp [Region.wanted, yielded]; done)) 40 (.tmp 3) rfl _ 0 rfl (lx.map (Value.int .u8)) _ q1.out Try.underlying40 rfl (by rw [List.length_map, hlx.out]; kernel_rfl) ?_; rw [show (lx.map (Value.int .u8)).toArray = X from hX.out.symm])
      | (refine wpList_load_w (by first | rfl | (simp [Region.wanted, yielded]; done)) 40 (.tmp 7) rfl _ 0 rfl (lx.map (Value.int .u8)) _ q3.out Try.underlying40 rfl (by rw [List.length_map, hlx.out]; kernel_rfl) ?_; rw [show (lx.map (Value.int .u8)).toArray = X from hX.out.symm])
      | (refine wpList_load_w (by first | rfl | (simp [Region.wanted, yielded]; done)) 44 (.tmp 5) rfl _ 0 rfl (ly.map (Value.int .u8)) _ q2.out Try.underlying44 rfl (by rw [List.length_map, hly.out]; kernel_rfl) ?_; rw [show (ly.map (Value.int .u8)).toArray = Y from hY.out.symm])
      | (refine wpList_load_w (by first | rfl | (simp [Region.wanted, yielded]; done)) 44 (.tmp 9) rfl _ 0 rfl (ly.map (Value.int .u8)) _ q4.out Try.underlying44 rfl (by rw [List.length_map, hly.out]; kernel_rfl) ?_; rw [show (ly.map (Value.int .u8)).toArray = Y from hY.out.symm]))
    go_ret
    exact ⟨rfl, hq5⟩
theorem fixed_any (s : ByteArray) (w : World) :
    Calls Try.prog 5 #[.string s] w fun e w' => e = .returned (.bool true) ∧ Below w.heap.size w w' := by
  have h := fixed_walk (numsOf s) (numsOf_byt s) w
  rwa [numsOf_str] at h
end Go.Proofs.Ytmbjdegfgidadaa

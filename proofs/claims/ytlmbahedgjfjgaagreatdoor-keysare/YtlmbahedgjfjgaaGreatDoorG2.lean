/- KY3, KY4, KY5, KY6, KY7, KY8, KY9, KYa, KYb, KYc, KTk: laid together. -/
import Derived.BigQuiet
import Derived.LaidLaws
import Derived.PinnedBridge
import Derived.Lay
import Derived.LaidMore
import Derived.WalkKit
import Derived.ProofKit
import Derived.OpenShut
import Derived.ChangeOld
import Derived.Test.YtlmbahedgjfjgaaGreatDoorG1
import Derived.Test.YtlmbahedgjfjgaaGreatDoorRows
namespace Go.Proofs.YtlmbahedgjfjgaaGreatDoor
open Go.RowKit

theorem nmd_of {zs : List Int} (h1 : 1 ≤ zs.length) (h2 : zs.length ≤ 64) (h : ∀ j, j < zs.length → nmB (zs.getD j 0) = true) : nmd zs = true := by
  unfold nmd
  rw [decide_eq_true h1, decide_eq_true h2, Bool.true_and, Bool.true_and, List.all_eq_true]
  intro z hz
  obtain ⟨j, hj, rfl⟩ := List.mem_iff_getElem.1 hz
  have := h j hj
  rwa [List.getD_eq_getElem?_getD, List.getElem?_eq_getElem hj] at this
theorem nmd_no {zs : List Int} {j : Nat} (hj : j < zs.length) (h : nmB (zs.getD j 0) = false) : nmd zs = false := by
  unfold nmd
  have : zs.all nmB = false := by
    rw [List.all_eq_false]
    refine ⟨zs[j], List.getElem_mem hj, ?_⟩
    rw [List.getD_eq_getElem?_getD, List.getElem?_eq_getElem hj] at h
    simpa using h
  rw [this, Bool.and_false]
set_option maxHeartbeats 8000000 in
set_option maxRecDepth 100000 in
theorem named_r {zs : List Int} (hz : Byt zs) (w : World) : Calls Tryz.prog 24 #[.string (strOfNums zs)] w fun e w' => e = .returned (.bool (nmd zs)) ∧ w' = w := by
  have hsz := str_size zs
  obtain ⟨S, hS⟩ : ∃ S, Hid (S = strOfNums zs) := ⟨_, hide1 rfl⟩
  have hat : ∀ j (h : j < S.size), (((S[j]'h).toNat : Nat) : Int) = zs.getD j 0 := by rw [hS.out]; exact str_at zs hz
  rw [← hS.out] at hsz ⊢
  have hyes := hide1 (@nmd_of zs)
  have hno : Hid (∀ j, j < zs.length → nmB (zs.getD j 0) = false → nmd zs = false) := hide1 fun j h1 h2 => nmd_no h1 h2
  have hbad : Hid (¬ (1 ≤ zs.length ∧ zs.length ≤ 64) → nmd zs = false) := hide1 fun h => by
    unfold nmd
    by_cases h1 : 1 ≤ zs.length
    · rw [decide_eq_false (p := zs.length ≤ 64) (fun h2 => h ⟨h1, h2⟩), Bool.and_false, Bool.false_and]
    · rw [decide_eq_false h1, Bool.false_and, Bool.false_and]
  generalize nmd zs = X at *
  generalize hL : zs.length = len at *
  by_cases hr : ¬ (1 ≤ len ∧ len ≤ 64)
  · obtain rfl := hbad.out hr
    clear hyes hno hbad hat
    by_cases h1 : len < 1
    · go_enter Tryz.func24, Tryz.ntmps24
      go_wp2
      go_ret
      exact ⟨rfl, rfl⟩
    · have h2 : 64 < len := by omega
      go_enter Tryz.func24, Tryz.ntmps24
      go_wp2
      go_ret
      exact ⟨rfl, rfl⟩
  have h1 : 1 ≤ len := by omega
  have h2 : len ≤ 64 := by omega
  clear hr hbad
  go_enter Tryz.func24, Tryz.ntmps24
  go_wp2_with fail
  go_loopw [3, 4] (fun s3 s4 wr => ∃ i : Nat, i ≤ len ∧ s3 = .int .i64 (i : Nat) ∧ wr = w ∧ Hid (∀ j, j < i → nmB (zs.getD j 0) = true)) (fun s3 _ _ => len - (intOf s3).toNat)
  case atStart => exact ⟨0, by omega, rfl, rfl, hide1 (fun j h => by omega)⟩
  case round =>
    obtain ⟨i, hi, rfl, rfl, hme⟩ := hrel
    by_cases hlt : i < len
    · have g0 := hz _ (getD_mem (l := zs) (k := i) (by omega))
      have hj2 : i < S.size := by omega
      have hx := hat i hj2
      have hn2 := hide1 (hno.out i hlt)
      have hm2 : Hid (nmB (zs.getD i 0) = true → ∀ j, j < i + 1 → nmB (zs.getD j 0) = true) := hide1 fun h j hj => by
        by_cases e : j = i
        · subst e; exact h
        · exact hme.out j (by omega)
      clear hat hyes hno hme
      generalize zs.getD i 0 = c at *
      rcases (by omega : (c < 45) ∨ (c = 45) ∨ (c = 46) ∨ (c = 47) ∨ (48 ≤ c ∧ c ≤ 57) ∨ (58 ≤ c ∧ c ≤ 63) ∨ (c = 64) ∨ (65 ≤ c ∧ c ≤ 94) ∨ (c = 95) ∨ (c = 96) ∨ (97 ≤ c ∧ c ≤ 122) ∨ (123 ≤ c)) with hc | rfl | rfl | rfl | ⟨hc, hc2⟩ | ⟨hc, hc2⟩ | rfl | ⟨hc, hc2⟩ | rfl | rfl | ⟨hc, hc2⟩ | hc
      · have b46 : (c == 46) = false := beq_eq_false_iff_ne.2 (by omega)
        have b45 : (c == 45) = false := beq_eq_false_iff_ne.2 (by omega)
        have b95 : (c == 95) = false := beq_eq_false_iff_ne.2 (by omega)
        have b64 : (c == 64) = false := beq_eq_false_iff_ne.2 (by omega)
        have d97 : decide (c ≥ 97) = false := decide_eq_false (by omega)
        have d122 : decide (c ≤ 122) = true := decide_eq_true (by omega)
        have d48 : decide (c ≥ 48) = false := decide_eq_false (by omega)
        have d57 : decide (c ≤ 57) = true := decide_eq_true (by omega)
        obtain rfl := hn2.out (by unfold nmB; simp; omega)
        clear hm2 hn2
        go_wp2
        go_ret
        exact ⟨rfl, rfl⟩
      · have hy := hide1 (hm2.out (by decide))
        clear hm2 hn2
        go_wp2
        go_roundw
        case rel => exact ⟨i + 1, by omega, by go_num, by first | rfl | trivial, hy⟩
        case measure => simp [intOf]; omega
      · have hy := hide1 (hm2.out (by decide))
        clear hm2 hn2
        go_wp2
        go_roundw
        case rel => exact ⟨i + 1, by omega, by go_num, by first | rfl | trivial, hy⟩
        case measure => simp [intOf]; omega
      · obtain rfl := hn2.out (by decide)
        clear hm2 hn2
        go_wp2
        go_ret
        exact ⟨rfl, rfl⟩
      · have b46 : (c == 46) = false := beq_eq_false_iff_ne.2 (by omega)
        have b45 : (c == 45) = false := beq_eq_false_iff_ne.2 (by omega)
        have b95 : (c == 95) = false := beq_eq_false_iff_ne.2 (by omega)
        have b64 : (c == 64) = false := beq_eq_false_iff_ne.2 (by omega)
        have d97 : decide (c ≥ 97) = false := decide_eq_false (by omega)
        have d122 : decide (c ≤ 122) = true := decide_eq_true (by omega)
        have d48 : decide (c ≥ 48) = true := decide_eq_true (by omega)
        have d57 : decide (c ≤ 57) = true := decide_eq_true (by omega)
        have hy := hide1 (hm2.out (by unfold nmB; simp; omega))
        clear hm2 hn2
        go_wp2
        go_roundw
        case rel => exact ⟨i + 1, by omega, by go_num, by first | rfl | trivial, hy⟩
        case measure => simp [intOf]; omega
      · have b46 : (c == 46) = false := beq_eq_false_iff_ne.2 (by omega)
        have b45 : (c == 45) = false := beq_eq_false_iff_ne.2 (by omega)
        have b95 : (c == 95) = false := beq_eq_false_iff_ne.2 (by omega)
        have b64 : (c == 64) = false := beq_eq_false_iff_ne.2 (by omega)
        have d97 : decide (c ≥ 97) = false := decide_eq_false (by omega)
        have d122 : decide (c ≤ 122) = true := decide_eq_true (by omega)
        have d48 : decide (c ≥ 48) = true := decide_eq_true (by omega)
        have d57 : decide (c ≤ 57) = false := decide_eq_false (by omega)
        obtain rfl := hn2.out (by unfold nmB; simp; omega)
        clear hm2 hn2
        go_wp2
        go_ret
        exact ⟨rfl, rfl⟩
      · have hy := hide1 (hm2.out (by decide))
        clear hm2 hn2
        go_wp2
        go_roundw
        case rel => exact ⟨i + 1, by omega, by go_num, by first | rfl | trivial, hy⟩
        case measure => simp [intOf]; omega
      · have b46 : (c == 46) = false := beq_eq_false_iff_ne.2 (by omega)
        have b45 : (c == 45) = false := beq_eq_false_iff_ne.2 (by omega)
        have b95 : (c == 95) = false := beq_eq_false_iff_ne.2 (by omega)
        have b64 : (c == 64) = false := beq_eq_false_iff_ne.2 (by omega)
        have d97 : decide (c ≥ 97) = false := decide_eq_false (by omega)
        have d122 : decide (c ≤ 122) = true := decide_eq_true (by omega)
        have d48 : decide (c ≥ 48) = true := decide_eq_true (by omega)
        have d57 : decide (c ≤ 57) = false := decide_eq_false (by omega)
        obtain rfl := hn2.out (by unfold nmB; simp; omega)
        clear hm2 hn2
        go_wp2
        go_ret
        exact ⟨rfl, rfl⟩
      · have hy := hide1 (hm2.out (by decide))
        clear hm2 hn2
        go_wp2
        go_roundw
        case rel => exact ⟨i + 1, by omega, by go_num, by first | rfl | trivial, hy⟩
        case measure => simp [intOf]; omega
      · obtain rfl := hn2.out (by decide)
        clear hm2 hn2
        go_wp2
        go_ret
        exact ⟨rfl, rfl⟩
      · have b46 : (c == 46) = false := beq_eq_false_iff_ne.2 (by omega)
        have b45 : (c == 45) = false := beq_eq_false_iff_ne.2 (by omega)
        have b95 : (c == 95) = false := beq_eq_false_iff_ne.2 (by omega)
        have b64 : (c == 64) = false := beq_eq_false_iff_ne.2 (by omega)
        have d97 : decide (c ≥ 97) = true := decide_eq_true (by omega)
        have d122 : decide (c ≤ 122) = true := decide_eq_true (by omega)
        have d48 : decide (c ≥ 48) = true := decide_eq_true (by omega)
        have d57 : decide (c ≤ 57) = false := decide_eq_false (by omega)
        have hy := hide1 (hm2.out (by unfold nmB; simp; omega))
        clear hm2 hn2
        go_wp2
        go_roundw
        case rel => exact ⟨i + 1, by omega, by go_num, by first | rfl | trivial, hy⟩
        case measure => simp [intOf]; omega
      · have b46 : (c == 46) = false := beq_eq_false_iff_ne.2 (by omega)
        have b45 : (c == 45) = false := beq_eq_false_iff_ne.2 (by omega)
        have b95 : (c == 95) = false := beq_eq_false_iff_ne.2 (by omega)
        have b64 : (c == 64) = false := beq_eq_false_iff_ne.2 (by omega)
        have d97 : decide (c ≥ 97) = true := decide_eq_true (by omega)
        have d122 : decide (c ≤ 122) = false := decide_eq_false (by omega)
        have d48 : decide (c ≥ 48) = true := decide_eq_true (by omega)
        have d57 : decide (c ≤ 57) = false := decide_eq_false (by omega)
        obtain rfl := hn2.out (by unfold nmB; simp; omega)
        clear hm2 hn2
        go_wp2
        go_ret
        exact ⟨rfl, rfl⟩
    · have hi : i = len := by omega
      obtain rfl := hyes.out (by omega) (by omega) (fun j hj => hme.out j (by omega))
      clear hyes hno hme hat
      go_wp2
      go_ret
      exact ⟨rfl, rfl⟩
theorem ext_take (zs : List Int) (k : Nat) : (strOfNums zs).extract 0 k = strOfNums (zs.take k) := by
  apply ByteArray.ext
  apply Array.ext'
  rw [ByteArray.data_extract, strOfNums_data, Array.toList_extract, strOfNums_data]
  simp [List.map_take]
theorem ext_drop (zs : List Int) (k : Nat) : (strOfNums zs).extract k zs.length = strOfNums (zs.drop k) := by
  apply ByteArray.ext
  apply Array.ext'
  rw [ByteArray.data_extract, strOfNums_data, Array.toList_extract, strOfNums_data]
  simp [List.map_drop]
  exact List.take_of_length_le (by simp)
theorem pre_take {p zs : List Int} (_h : p.length ≤ zs.length) : p.isPrefixOf zs = decide (zs.take p.length = p) := by
  by_cases e : zs.take p.length = p
  · rw [decide_eq_true e, List.isPrefixOf_iff_prefix]
    exact ⟨zs.drop p.length, by conv => lhs; lhs; rw [← e]
                                rw [List.take_append_drop]⟩
  · rw [decide_eq_false e]
    cases hp : p.isPrefixOf zs with
    | false => rfl
    | true =>
      obtain ⟨r, hr⟩ := List.isPrefixOf_iff_prefix.1 hp
      exact absurd (by rw [← hr, List.take_left]) e
theorem byt_take {zs : List Int} (h : Byt zs) (k : Nat) : Byt (zs.take k) := fun z hz => h z (List.mem_of_mem_take hz)
theorem cmp_pre {p zs : List Int} (hp : Byt p) (hz : Byt zs) (h : p.length ≤ zs.length) : (((strOfNums zs).extract 0 p.length).toList == (strOfNums p).toList) = p.isPrefixOf zs := by
  rw [ext_take, str_beq (byt_take hz _) hp, pre_take h]
theorem kIs_ref (zs : List Int) : kIs zs = if 3 < zs.length ∧ idP.isPrefixOf zs = true then nmd (zs.drop 3) else if 4 < zs.length ∧ kyP.isPrefixOf zs = true then fgs (zs.drop 4) else if 7 < zs.length ∧ shP.isPrefixOf zs = true then fgs (zs.drop 7) else false := by
  have f0 : fgs [] = false := by decide
  have n0 : nmd [] = false := by decide
  have hlen : ∀ {p : List Int}, p.isPrefixOf zs = true → p.length ≤ zs.length ∧ ∃ r, zs = p ++ r := fun h => by
    obtain ⟨r, hr⟩ := List.isPrefixOf_iff_prefix.1 h
    exact ⟨by rw [← hr]; simp, r, hr.symm⟩
  unfold kIs
  cases h1 : idP.isPrefixOf zs with
  | true =>
    obtain ⟨_, r, rfl⟩ := hlen h1
    have k1 : kyP.isPrefixOf (idP ++ r) = false := rfl
    have k2 : shP.isPrefixOf (idP ++ r) = false := rfl
    rw [k1, k2]
    cases r with
    | nil => simp [idP, n0]
    | cons a r => simp [idP]
  | false =>
    simp only [Bool.false_eq_true, if_false, and_false]
    cases h2 : shP.isPrefixOf zs with
    | true =>
      obtain ⟨_, r, rfl⟩ := hlen h2
      have k1 : kyP.isPrefixOf (shP ++ r) = false := rfl
      rw [k1]
      cases r with
      | nil => simp [shP, f0]
      | cons a r => simp [shP]
    | false =>
      simp only [Bool.false_eq_true, if_false, and_false]
      cases h3 : kyP.isPrefixOf zs with
      | true =>
        obtain ⟨_, r, rfl⟩ := hlen h3
        cases r with
        | nil => simp [kyP, f0]
        | cons a r => simp [kyP]
      | false => simp
theorem rsum_k {zs : List Int} (hz : Byt zs) (hm : zs.length ≤ 100000) (w : World) : Calls Tryz.prog 43 #[.string (strOfNums zs)] w fun e w' => (∃ A, e = .returned (.tuple #[.agg A, .bool (fgs zs)])) ∧ Below w.heap.size w w' := by
  refine (rsum_d zs hz hm w).mono fun e w' h => ⟨?_, h.2⟩
  have h1 := h.1
  unfold fgs
  cases hq : fx 32 (ga4 .z zs) with
  | none => rw [hq] at h1; exact ⟨_, h1⟩
  | some l => rw [hq] at h1; exact ⟨_, h1⟩
set_option maxHeartbeats 8000000 in
set_option maxRecDepth 100000 in
theorem is_r {zs : List Int} (hz : Byt zs) (hm : zs.length ≤ 100000) (w : World) : Calls Tryz.prog 18 #[.string (strOfNums zs)] w fun e w' => e = .returned (.bool (kIs zs)) ∧ Below w.heap.size w w' := by
  have hsz := str_size zs
  have q1 := @cmp_pre idP zs (by unfold Byt idP; decide) hz
  have q2 := @cmp_pre shP zs (by unfold Byt shP; decide) hz
  have q3 := @cmp_pre kyP zs (by unfold Byt kyP; decide) hz
  rw [show idP.length = 3 from rfl, show (strOfNums idP).toList = [105, 100, 58] by rw [ByteArray.toList_eq]; rfl] at q1
  rw [show shP.length = 7 from rfl, show (strOfNums shP).toList = [115, 104, 97, 50, 53, 54, 58] by rw [ByteArray.toList_eq]; rfl] at q2
  rw [show kyP.length = 4 from rfl, show (strOfNums kyP).toList = [107, 101, 121, 58] by rw [ByteArray.toList_eq]; rfl] at q3
  have x1 := ext_drop zs 3
  have x2 := ext_drop zs 7
  have x3 := ext_drop zs 4
  have n1 := named_r (byt_drop hz 3) w
  have n2 := rsum_k (byt_drop hz 7) (by rw [List.length_drop]; omega) w
  have n3 := rsum_k (byt_drop hz 4) (by rw [List.length_drop]; omega) w
  have hex : shP.isPrefixOf zs = true → kyP.isPrefixOf zs = false := fun h => by
    obtain ⟨r, rfl⟩ := List.isPrefixOf_iff_prefix.1 h
    rfl
  rw [kIs_ref]
  generalize idP.isPrefixOf zs = a1 at *
  generalize shP.isPrefixOf zs = a2 at *
  generalize kyP.isPrefixOf zs = a3 at *
  generalize nmd (zs.drop 3) = X1 at *
  generalize fgs (zs.drop 7) = X2 at *
  generalize fgs (zs.drop 4) = X3 at *
  generalize strOfNums (zs.drop 3) = S1 at *
  generalize strOfNums (zs.drop 7) = S2 at *
  generalize strOfNums (zs.drop 4) = S3 at *
  generalize strOfNums zs = S at *
  generalize zs.length = len at *
  clear hz hm
  replace hex := hide1 hex
  by_cases h3 : 3 < len
  · have e1 := q1 (by omega)
    have j1 : (3 : Nat) ≤ S.size := by omega
    clear q1
    cases a1 with
    | true =>
      rw [if_pos ⟨h3, rfl⟩]
      clear q2 q3 x2 x3 n2 n3 hex
      go_enter Tryz.func18, Tryz.ntmps18
      go_wp2_with fail
      refine n1.mono ?_
      rintro e w1 ⟨rfl, rfl⟩
      go_wp2
      go_ret
      exact ⟨rfl, Below.refl _ _⟩
    | false =>
      rw [if_neg (by simp)]
      clear n1 x1
      by_cases h4 : 4 < len
      · have e3 := q3 (by omega)
        have j3 : (4 : Nat) ≤ S.size := by omega
        clear q3
        by_cases h7 : 7 < len
        · have e2 := q2 (by omega)
          have j2 : (7 : Nat) ≤ S.size := by omega
          clear q2
          cases a2 with
          | true =>
            obtain rfl := hex.out rfl
            rw [if_neg (by simp), if_pos ⟨h7, rfl⟩]
            clear n3 x3 hex
            go_enter Tryz.func18, Tryz.ntmps18
            go_wp2_with fail
            refine n2.mono ?_
            rintro e w1 ⟨⟨A, rfl⟩, b1⟩
            go_wp2
            go_ret
            exact ⟨rfl, b1⟩
          | false =>
            cases a3 with
            | true =>
              rw [if_pos ⟨h4, rfl⟩]
              clear n2 x2 hex
              go_enter Tryz.func18, Tryz.ntmps18
              go_wp2_with fail
              refine n3.mono ?_
              rintro e w1 ⟨⟨A, rfl⟩, b1⟩
              go_wp2
              go_ret
              exact ⟨rfl, b1⟩
            | false =>
              rw [if_neg (by simp), if_neg (by simp)]
              clear n2 n3 x2 x3 hex
              go_enter Tryz.func18, Tryz.ntmps18
              go_wp2
              go_ret
              exact ⟨rfl, Below.refl _ _⟩
        · clear q2 x2 n2 hex
          cases a3 with
          | true =>
            rw [if_pos ⟨h4, rfl⟩]
            go_enter Tryz.func18, Tryz.ntmps18
            go_wp2_with fail
            refine n3.mono ?_
            rintro e w1 ⟨⟨A, rfl⟩, b1⟩
            go_wp2
            go_ret
            exact ⟨rfl, b1⟩
          | false =>
            rw [if_neg (by simp), if_neg (by omega)]
            clear n3 x3
            go_enter Tryz.func18, Tryz.ntmps18
            go_wp2
            go_ret
            exact ⟨rfl, Below.refl _ _⟩
      · rw [if_neg (by omega), if_neg (by omega)]
        clear q2 q3 x2 x3 n2 n3 hex
        go_enter Tryz.func18, Tryz.ntmps18
        go_wp2
        go_ret
        exact ⟨rfl, Below.refl _ _⟩
  · rw [if_neg (by omega), if_neg (by omega), if_neg (by omega)]
    clear q1 q2 q3 x1 x2 x3 n1 n2 n3 hex
    go_enter Tryz.func18, Tryz.ntmps18
    go_wp2
    go_ret
    exact ⟨rfl, Below.refl _ _⟩
theorem bs_bA {w : World} {q : Nat} {t : TypeId} {D : List Int} {n : Nat} (hD : Byt D) (hn : D.length = n) (h : w.heap[q]? = some (.cells (bA D) t (0, 0))) : Bs w (some ⟨q, 0, none⟩) n D := by
  refine ⟨hn, hD, fun hp => ⟨q, 0, rfl, fun i hi => ?_⟩⟩
  rw [Nat.zero_add]
  refine cell_of i h ?_
  simp [bA, show i < D.length by omega]
theorem hexE_size {D : List Int} (hn : D.length = 32) : (strOfNums (hexE D)).size = 64 := by
  rw [str_size, hexE_len, hn]
set_option maxHeartbeats 4000000 in
set_option maxRecDepth 100000 in
theorem digest_k {D : List Int} (hD : Byt D) (hn : D.length = 32) (w : World) : Calls Tryz.prog 19 #[.agg (bA D)] w fun e w' => e = .returned (.string (strOfNums (shP ++ hexE D))) ∧ Below w.heap.size w w' := by
  have hb := heap_na w (bA D) 23
  have bb := below_na (w := w) (.cells (bA D) 23)
  obtain ⟨wb, hwb⟩ : ∃ wb, wb = w.alloc (.cells (bA D) 23) := ⟨_, rfl⟩
  rw [← hwb] at hb bb
  have hx := hex_d (some ⟨w.heap.size, 0, none⟩) 32 32 D wb (bs_bA hD hn hb) (by omega)
  have hs : (⟨#[115, 104, 97, 50, 53, 54, 58]⟩ : ByteArray) ++ strOfNums (hexE D) = strOfNums (shP ++ hexE D) := by rw [← str_app]; rfl
  have hz := hexE_size hn
  rw [← hs]
  generalize strOfNums (hexE D) = S at *
  generalize bA D = A at *
  replace bb := hide1 bb
  clear hb hs
  go_enter Tryz.func19, Tryz.ntmps19
  go_upto_region 1 with fail
  rw [← hwb]
  clear hwb
  go_wp2_with fail
  refine hx.mono ?_
  rintro e w1 ⟨rfl, b1⟩
  go_wp2
  go_ret
  exact ⟨rfl, bb.out.trans (b1.mono bb.out.size)⟩
set_option maxHeartbeats 4000000 in
set_option maxRecDepth 100000 in
theorem key_k {D : List Int} (hD : Byt D) (hn : D.length = 32) (w : World) : Calls Tryz.prog 21 #[.agg (bA D)] w fun e w' => e = .returned (.string (strOfNums (kyP ++ hexE D))) ∧ Below w.heap.size w w' := by
  have hb := heap_na w (bA D) 25
  have bb := below_na (w := w) (.cells (bA D) 25)
  obtain ⟨wb, hwb⟩ : ∃ wb, wb = w.alloc (.cells (bA D) 25) := ⟨_, rfl⟩
  rw [← hwb] at hb bb
  have hx := hex_d (some ⟨w.heap.size, 0, none⟩) 32 32 D wb (bs_bA hD hn hb) (by omega)
  have hs : (⟨#[107, 101, 121, 58]⟩ : ByteArray) ++ strOfNums (hexE D) = strOfNums (kyP ++ hexE D) := by rw [← str_app]; rfl
  have hz := hexE_size hn
  rw [← hs]
  generalize strOfNums (hexE D) = S at *
  generalize bA D = A at *
  replace bb := hide1 bb
  clear hb hs
  go_enter Tryz.func21, Tryz.ntmps21
  go_upto_region 1 with fail
  rw [← hwb]
  clear hwb
  go_wp2_with fail
  refine hx.mono ?_
  rintro e w1 ⟨rfl, b1⟩
  go_wp2
  go_ret
  exact ⟨rfl, bb.out.trans (b1.mono bb.out.size)⟩
set_option maxHeartbeats 4000000 in
set_option maxRecDepth 100000 in
theorem digest_r {D : List Int} (hD : Byt D) (hn : D.length = 32) (w : World) : Calls Tryz.prog 20 #[.agg (bA D)] w fun e w' => e = .returned (.string (strOfNums (shP ++ hexE D))) ∧ Below w.heap.size w w' := by
  have hb := heap_na w (bA D) 23
  have bb := below_na (w := w) (.cells (bA D) 23)
  obtain ⟨wb, hwb⟩ : ∃ wb, wb = w.alloc (.cells (bA D) 23) := ⟨_, rfl⟩
  rw [← hwb] at hb bb
  have hx := refHex_d (some ⟨w.heap.size, 0, none⟩) 32 32 D wb (bs_bA hD hn hb) (by omega)
  have hs : (⟨#[115, 104, 97, 50, 53, 54, 58]⟩ : ByteArray) ++ strOfNums (hexE D) = strOfNums (shP ++ hexE D) := by rw [← str_app]; rfl
  have hz := hexE_size hn
  rw [← hs]
  generalize strOfNums (hexE D) = S at *
  generalize bA D = A at *
  replace bb := hide1 bb
  clear hb hs
  go_enter Tryz.func20, Tryz.ntmps20
  go_upto_region 1 with fail
  rw [← hwb]
  clear hwb
  go_wp2_with fail
  refine hx.mono ?_
  rintro e w1 ⟨rfl, b1⟩
  go_wp2
  go_ret
  exact ⟨rfl, bb.out.trans (b1.mono bb.out.size)⟩
set_option maxHeartbeats 4000000 in
set_option maxRecDepth 100000 in
theorem key_r {D : List Int} (hD : Byt D) (hn : D.length = 32) (w : World) : Calls Tryz.prog 22 #[.agg (bA D)] w fun e w' => e = .returned (.string (strOfNums (kyP ++ hexE D))) ∧ Below w.heap.size w w' := by
  have hb := heap_na w (bA D) 25
  have bb := below_na (w := w) (.cells (bA D) 25)
  obtain ⟨wb, hwb⟩ : ∃ wb, wb = w.alloc (.cells (bA D) 25) := ⟨_, rfl⟩
  rw [← hwb] at hb bb
  have hx := refHex_d (some ⟨w.heap.size, 0, none⟩) 32 32 D wb (bs_bA hD hn hb) (by omega)
  have hs : (⟨#[107, 101, 121, 58]⟩ : ByteArray) ++ strOfNums (hexE D) = strOfNums (kyP ++ hexE D) := by rw [← str_app]; rfl
  have hz := hexE_size hn
  rw [← hs]
  generalize strOfNums (hexE D) = S at *
  generalize bA D = A at *
  replace bb := hide1 bb
  clear hb hs
  go_enter Tryz.func22, Tryz.ntmps22
  go_upto_region 1 with fail
  rw [← hwb]
  clear hwb
  go_wp2_with fail
  refine hx.mono ?_
  rintro e w1 ⟨rfl, b1⟩
  go_wp2
  go_ret
  exact ⟨rfl, bb.out.trans (b1.mono bb.out.size)⟩
theorem ident_k {s : List Int} (hm : s.length ≤ 1000000) (w : World) : Calls Tryz.prog 23 #[.string (strOfNums s)] w fun e w' => e = .returned (.string (strOfNums (idP ++ s))) ∧ w' = w := by
  have hs : (⟨#[105, 100, 58]⟩ : ByteArray) ++ strOfNums s = strOfNums (idP ++ s) := by rw [← str_app]; rfl
  have hz := str_size s
  rw [← hs]
  generalize strOfNums s = S at *
  clear hs
  go_enter Tryz.func23, Tryz.ntmps23
  go_wp2
  go_ret
  exact ⟨rfl, rfl⟩
theorem al2_at (w : World) (X Y : Obj) : ((w.alloc X).alloc Y).heap[w.heap.size]? = some X := by
  show ((w.heap.push _).push _)[w.heap.size]? = _
  rw [Array.getElem?_push, if_neg (by simp), Array.getElem?_push, if_pos rfl]
theorem al2_top (w : World) (X Y : Obj) : ((w.alloc X).alloc Y).heap[w.heap.size + 1]? = some Y := by
  show ((w.heap.push _).push _)[w.heap.size + 1]? = _
  rw [Array.getElem?_push, if_pos (by simp)]
theorem al2_bl (w : World) (X Y : Obj) : Below w.heap.size w ((w.alloc X).alloc Y) := (below_na _).alloc (by simp) _
set_option maxHeartbeats 4000000 in
set_option maxRecDepth 100000 in
theorem one_d (w : World) : Calls Tryz.prog 26 #[] w fun e w' => e = .returned (.agg (entA 1 0 [] (.slice (some ⟨w.heap.size + 1, 0, none⟩) 1 1))) ∧ Sg1 w' (w.heap.size + 1) alc ∧ Below w.heap.size w w' := by
  have hone : (entA 1 0 [] (.slice (some ⟨w.heap.size + 1, 0, none⟩) 1 1)).all (·.oneCell') = true := by kernel_rfl
  go_enter Tryz.func26, Tryz.ntmps26
  go_wp2_with (first | (refine wpList_store_row rfl 28 (.tmp 0) (.tmp 3) rfl w.heap.size (entA 1 0 [] (.slice (some ⟨w.heap.size + 1, 0, none⟩) 1 1)) rfl (by kernel_rfl) 28 _ (al2_at w _ _) (by kernel_rfl) (by kernel_rfl) hone ?_) | fail)
  refine bodyPost_ret (results_e rfl _ rfl rfl (setRow_heap _ _ _ _ _ _ (al2_at w _ _))) rfl ⟨rfl, ?_, bel_set (al2_bl w _ _) (Nat.le_refl _)⟩
  refine (setRow_other _ _ _ _ (by omega)).trans ((al2_top w _ _).trans ?_)
  kernel_rfl
theorem infoS : (Tryz.prog.info? 9).map (fun i => (i.zero, i.size, i.bytes)) = some (some (.string ⟨#[]⟩), 1, 16) := by kernel_rfl
theorem wpList_append_st {w : World} {ops : Array Oper} {rest : List Oper} {o : Oper} {a : Act} {Q : Exit → Act → World → Prop} (hgd : o.guard = none) (s x : Operand)
    (ho : o.op = .call { callee := .builtin .append, args := #[s, x], argTypes := #[31, 31] }) (base : Nat)
    (v : Value) (n : Nat) (xs : List Value) (hs : a.eval s = v) (hown : w.ownsRow base 9 1 v n xs) (b c : Nat) (t : ByteArray) (hx : a.eval x = .slice (some ⟨b, 0, none⟩) 1 c) (hb : w.cell? ⟨b, 0, none⟩ = some (.string t))
    (hbytes : n ≤ 100000) (hbase : base ≤ w.heap.size)
    (h : ∀ v' w', w'.ownsRow base 9 1 v' (n + 1) (xs ++ [.string t]) → w.grownBy w' v.ownBlock → wpList Tryz.prog ops Q rest (a.put o.dst v') w') : wpList Tryz.prog ops Q (o :: rest) a w := by
  refine wpList_plain hgd fun K hK => ?_
  obtain ⟨i0, hi, hp⟩ := Option.map_eq_some_iff.1 infoS
  simp only [Prod.mk.injEq] at hp
  obtain ⟨hz0, hz1, hz2⟩ := hp
  obtain ⟨v', w', hr, h4, h5, _⟩ := run_append_own (P := Tryz.prog) w base 31 o.type 9 i0 (.string ⟨#[]⟩) 1 16 Tryz.underlying31 hi hz0 hz1 hz2 rfl (by decide) v n xs hown ⟨b, 0, none⟩ 1 c [.string t] rfl
    (by intro j u hj
        cases j with
        | zero => simp at hj; subst hj; exact hb
        | succ j => simp at hj) (by intro u hu; simp at hu; subst hu; rfl) (by unfold maxLen; omega) (by omega) hbase
  unfold Oper.wp execOp
  simp only [ho, resolve, invoke, builtin, Sem.run_bind, Sem.run_pure, Result.andThen_ok, List.map_toArray, List.map_cons, List.map_nil, hs, hx, hr]
  exact hK _ _ (h v' w' h4 h5)
set_option maxHeartbeats 8000000 in
set_option maxRecDepth 100000 in
theorem ofSigs_a {g : Nat} {w : World} (h : Sg1 w g alc) : Calls Tryz.prog 29 #[.slice (some ⟨g, 0, none⟩) 1 1] w fun e w' => (∃ v, e = .returned v ∧ w'.ownsRow w.heap.size 9 1 v 1 [.string (strOfNums (idP ++ alc))]) ∧ Below w.heap.size w w' := by
  have r0 := hide1 (rng_of 0 (sgC alc) h rfl)
  have ha := heap_na w Tryz.zeroCells53 53
  have hone : (sgC alc).toArray.all (·.oneCell') = true := by kernel_rfl
  have hid := fun w => ident_k (s := alc) (by decide) w
  rw [show strOfNums alc = ⟨#[97, 108, 105, 99, 101]⟩ from rfl] at hid
  obtain ⟨Sx, hS⟩ : ∃ Sx, Sx = strOfNums (idP ++ alc) := ⟨_, rfl⟩
  rw [← hS] at hid ⊢
  clear hS
  go_enter Tryz.func29, Tryz.ntmps29
  go_wp2_with fail
  refine wp_loop_rounds 2 ?_
  rw [rounds_succ]
  go_upto_region 5 with (first
    | (refine load_w rfl 53 (.tmp 10) rfl g 0 rfl (sgC alc) _ r0.out Tryz.underlying53 rfl (by kernel_rfl) ?_)
    | (refine wpList_store_row rfl 53 (.tmp 5) (.tmp 11) rfl w.heap.size (sgC alc).toArray rfl rfl 53 _ ha (by kernel_rfl) (by kernel_rfl) hone ?_)
    | fail)
  obtain ⟨w1, hw1⟩ : ∃ w1, w1 = (w.alloc (.cells Tryz.zeroCells53 53)).setRow w.heap.size (sgC alc).toArray := ⟨_, rfl⟩
  rw [← hw1]
  simp only [Act.put]
  have hx : Sg1 w1 w.heap.size alc := by rw [hw1]; exact setRow_heap _ _ _ _ _ _ ha
  have b1 : Below w.heap.size w w1 := by rw [hw1]; exact bel_set (below_na _) (Nat.le_refl _)
  have c0 : w1.cell? ⟨w.heap.size, 0, none⟩ = some (.string ⟨#[97, 108, 105, 99, 101]⟩) := cell_of 0 hx rfl
  have hid1 := hid w1
  have b2 := hide1 (b1.trans ((below_na (w := w1) (.cells #[.string Sx] 9)).mono b1.size))
  have hsz := b1.size
  clear hw1 ha r0 h hx b1 hid
  go_wp2_with fail
  refine hid1.mono ?_
  rintro e w2 ⟨rfl, rfl⟩
  clear hid1
  go_wp2_with (at_builtin; refine wpList_append_st rfl (.tmp 15) (.tmp 19) rfl w.heap.size _ 0 [] rfl ⟨rfl, .inl ⟨rfl, rfl⟩⟩ w2.heap.size 1 Sx rfl (cell_of 0 (heap_na _ _ _) rfl) (by omega) (by simp; omega) ?_; intro v3 w3 o3 g3; refine stopAt ?_)
  have b3 := hide1 (b2.out.grown g3 b2.out.size (fun j e => by cases e))
  clear g3 c0
  refine hide1 ?_
  go_wp2
  rw [rounds_succ]
  go_wp2
  go_ret
  exact ⟨⟨_, rfl, o3⟩, b3.out⟩
set_option maxHeartbeats 8000000 in
set_option maxRecDepth 100000 in
theorem ofBody_1 (sl : Value) (w : World) : Calls Tryz.prog 30 #[.agg (entA 1 0 [] sl)] w fun e w' => (∃ v, e = .returned v ∧ w'.ownsRow w.heap.size 9 1 v 1 [.string (strOfNums (shP ++ hexE (zL 32)))]) ∧ Below w.heap.size w w' := by
  have hb := heap_na w (entA 1 0 [] sl) 28
  have bb := below_na (w := w) (.cells (entA 1 0 [] sl) 28)
  obtain ⟨wb, hwb⟩ : ∃ wb, wb = w.alloc (.cells (entA 1 0 [] sl) 28) := ⟨_, rfl⟩
  rw [← hwb] at hb bb
  have c0 : wb.cell? ⟨w.heap.size, 0, none⟩ = some (.int .i64 1) := cell_of 0 hb rfl
  have r1 := hide1 (rng_of 1 (zC 32) hb rfl)
  have hdg := digest_k (D := zL 32) (by unfold Byt zL; decide) (by decide) wb
  replace hdg : Calls Tryz.prog 19 #[.agg (zC 32).toArray] wb _ := hdg
  obtain ⟨Sx, hS⟩ : ∃ Sx, Sx = strOfNums (shP ++ hexE (zL 32)) := ⟨_, rfl⟩
  rw [← hS] at hdg ⊢
  replace bb := hide1 bb
  clear hb hS
  go_enter Tryz.func30, Tryz.ntmps30
  go_upto_region 1 with fail
  rw [← hwb]
  clear hwb
  go_wp2_with (first | (refine load_w rfl 23 (.tmp 15) rfl w.heap.size 1 rfl (zC 32) _ r1.out Tryz.underlying23 rfl (by kernel_rfl) ?_) | fail)
  refine hdg.mono ?_
  rintro e w2 ⟨rfl, b2⟩
  have b3 := hide1 (bb.out.trans (b2.mono bb.out.size))
  have b4 := hide1 (b3.out.trans ((below_na (w := w2) (.cells #[.string Sx] 9)).mono b3.out.size))
  have hsz := b3.out.size
  clear hdg b2 c0 r1
  go_wp2_with (at_builtin; refine wpList_append_st rfl (.tmp 14) (.tmp 18) rfl w.heap.size _ 0 [] rfl ⟨rfl, .inl ⟨rfl, rfl⟩⟩ w2.heap.size 1 Sx rfl (cell_of 0 (heap_na _ _ _) rfl) (by omega) (by simp; omega) ?_; intro v3 w3 o3 g3; refine stopAt ?_)
  have b5 := hide1 (b4.out.grown g3 b4.out.size (fun j e => by cases e))
  clear g3
  refine hide1 ?_
  go_wp2
  go_ret
  exact ⟨⟨_, rfl, o3⟩, b5.out⟩
def kA : ByteArray := strOfNums (idP ++ alc)
def kB : ByteArray := strOfNums (shP ++ hexE (zL 32))
theorem less_k (w : World) : Calls Tryz.prog 118 #[.string kB, .string kA] w fun e w' => e = .returned (.bool false) ∧ w' = w := by
  have hl : Op.bytesLess kB.toList kA.toList = false := by decide +kernel
  generalize kA = A at *
  generalize kB = B at *
  go_enter Tryz.func118, Tryz.ntmps118
  go_wp2
  go_ret
  exact ⟨by first | rfl | (rw [hl]; rfl) | (simp only [hl]; rfl), rfl⟩
theorem bel_dn {B : Nat} {w w' : World} (h : Below B w w') : ∀ q, Below B w (w'.drewN q)
  | 0 => h
  | q + 1 => (bel_dn h q).drew
set_option maxHeartbeats 4000000 in
set_option maxRecDepth 100000 in
theorem compact_2 {g cap : Nat} {w : World} (c0 : w.cell? ⟨g, 0, none⟩ = some (.string kA)) (c1 : w.cell? ⟨g, 1, none⟩ = some (.string kB)) : Calls Tryz.prog 54 #[.slice (some ⟨g, 0, none⟩) 2 cap] w fun e w' => e = .returned (.slice (some ⟨g, 0, none⟩) 2 cap) ∧ Below w.heap.size w w' := by
  have hne : (kB.toList == kA.toList) = false := by decide +kernel
  generalize kA = A at *
  generalize kB = B at *
  go_enter Tryz.func54, Tryz.ntmps54
  go_wp2_with fail
  refine wp_loop_rounds 2 ?_
  rw [rounds_succ]
  go_upto_region 6 with fail
  go_quiet (fail)
  go_wp2
  rw [rounds_succ]
  go_wp2
  go_ret
  exact ⟨rfl, bel_dn (Below.refl _ _) _⟩
set_option maxHeartbeats 4000000 in
set_option maxRecDepth 100000 in
theorem insert_2 {g cap : Nat} {w : World} (c0 : w.cell? ⟨g, 0, none⟩ = some (.string kA)) (c1 : w.cell? ⟨g, 1, none⟩ = some (.string kB)) : Calls Tryz.prog 112 #[.slice (some ⟨g, 0, none⟩) 2 cap, .int .i64 0, .int .i64 2] w fun e w' => e = .returned (.tuple #[]) ∧ Below w.heap.size w w' := by
  have hless := less_k
  generalize kA = A at *
  generalize kB = B at *
  go_enter Tryz.func112, Tryz.ntmps112
  go_wp2_with fail
  refine wp_loop_rounds 2 ?_
  rw [rounds_succ]
  go_wp2_with fail
  refine wp_loop_rounds 1 ?_
  rw [rounds_succ]
  go_upto_region 4 with fail
  go_quiet ((go_at_call 118; refine Calls.quiet_of_same (hless _)))
  go_wp2
  rw [rounds_succ]
  go_wp2
  exact bodyPost_end (results_none rfl _ _ _) rfl ⟨rfl, bel_dn (Below.refl _ _) _⟩
set_option maxRecDepth 100000 in
theorem len_2 (w : World) : Calls Tryz.prog 83 #[.int .u64 2] w fun e w' => e = .returned (.int .i64 2) ∧ w' = w := by
  go_enter Tryz.func83, Tryz.ntmps83
  go_wp2
  go_ret
  exact ⟨by kernel_rfl, rfl⟩
set_option maxHeartbeats 4000000 in
set_option maxRecDepth 100000 in
theorem pdq_2 {g cap : Nat} {w : World} (c0 : w.cell? ⟨g, 0, none⟩ = some (.string kA)) (c1 : w.cell? ⟨g, 1, none⟩ = some (.string kB)) : Calls Tryz.prog 82 #[.slice (some ⟨g, 0, none⟩) 2 cap, .int .i64 0, .int .i64 2, .int .i64 2] w fun e w' => e = .returned (.tuple #[]) ∧ Below w.heap.size w w' := by
  have hi := insert_2 (cap := cap) c0 c1
  go_enter Tryz.func82, Tryz.ntmps82
  go_wp2_with fail
  refine wp_loop_rounds 1 ?_
  rw [rounds_succ]
  go_wp2_with fail
  refine hi.mono ?_
  rintro e w1 ⟨rfl, b1⟩
  go_wp2
  first | (go_ret; exact ⟨rfl, b1⟩) | (refine bodyPost_ret (results_none rfl _ _ _) rfl ⟨rfl, b1⟩)
set_option maxHeartbeats 4000000 in
set_option maxRecDepth 100000 in
theorem sort_2 {g cap : Nat} {w : World} (c0 : w.cell? ⟨g, 0, none⟩ = some (.string kA)) (c1 : w.cell? ⟨g, 1, none⟩ = some (.string kB)) : Calls Tryz.prog 53 #[.slice (some ⟨g, 0, none⟩) 2 cap] w fun e w' => e = .returned (.tuple #[]) ∧ Below w.heap.size w w' := by
  have hp := pdq_2 (cap := cap) c0 c1
  have hl := len_2
  go_enter Tryz.func53, Tryz.ntmps53
  go_wp2_with fail
  refine (hl _).mono ?_
  rintro e w1 ⟨rfl, rfl⟩
  go_wp2_with fail
  refine hp.mono ?_
  rintro e w2 ⟨rfl, b2⟩
  go_wp2
  exact bodyPost_end (results_none rfl _ _ _) rfl ⟨rfl, b2⟩
set_option maxHeartbeats 4000000 in
set_option maxRecDepth 100000 in
theorem rising_2 {v : Value} {base : Nat} {w : World} (h : w.ownsRow base 9 1 v 2 [.string kA, .string kB]) : Calls Tryz.prog 28 #[v] w fun e w' => e = .returned v ∧ Below w.heap.size w w' := by
  obtain ⟨-, ⟨_, h0⟩ | ⟨g, cap, cur, rfl, hg, hb, hn, hm, hs, ht⟩⟩ := h
  · cases h0
  have k0 : cur[0]? = some (.string kA) := by
    have := congrArg (·[0]?) ht
    simpa using this
  have k1 : cur[1]? = some (.string kB) := by
    have := congrArg (·[1]?) ht
    simpa using this
  have c0 := cell_of 0 hb k0
  have c1 := cell_of 1 hb k1
  have hlt : g < w.heap.size := (Array.getElem?_eq_some_iff.1 hb).1
  have hso := sort_2 (cap := cap) c0 c1
  have hcm : Hid (∀ w1, Below w.heap.size w w1 → Calls Tryz.prog 54 #[.slice (some ⟨g, 0, none⟩) 2 cap] w1 fun e w' => e = .returned (.slice (some ⟨g, 0, none⟩) 2 cap) ∧ Below w1.heap.size w1 w') := hide1 fun w1 b1 => compact_2 (cell_of 0 ((b1.block _ hlt).trans hb) k0) (cell_of 1 ((b1.block _ hlt).trans hb) k1)
  clear c0 c1 k0 k1 hb ht hs hg hn hm
  go_enter Tryz.func28, Tryz.ntmps28
  go_wp2_with fail
  refine hso.mono ?_
  rintro e w1 ⟨rfl, b1⟩
  have hc1 := hcm.out w1 b1
  clear hso
  go_wp2_with fail
  refine hc1.mono ?_
  rintro e w2 ⟨rfl, b2⟩
  go_wp2
  go_ret
  exact ⟨rfl, b1.trans (b2.mono b1.size)⟩
theorem own_below {w w' : World} {base : Nat} {e : TypeId} {z n : Nat} {v : Value} {xs : List Value} (h : w.ownsRow base e z v n xs) (hb : Below w.heap.size w w') : w'.ownsRow base e z v n xs := by
  obtain ⟨h1, h | ⟨g, cap, cur, rfl, hg, hh, r⟩⟩ := h
  · exact ⟨h1, .inl h⟩
  · exact ⟨h1, .inr ⟨g, cap, cur, rfl, hg, (hb.block g (Array.getElem?_eq_some_iff.1 hh).1).trans hh, r⟩⟩
theorem own_base {w : World} {base b : Nat} {e : TypeId} {z n : Nat} {v : Value} {xs : List Value} (h : w.ownsRow base e z v n xs) (hb : b ≤ base) : w.ownsRow b e z v n xs := by
  obtain ⟨h1, h | ⟨g, cap, cur, rfl, hg, r⟩⟩ := h
  · exact ⟨h1, .inl h⟩
  · exact ⟨h1, .inr ⟨g, cap, cur, rfl, by omega, r⟩⟩
section
variable {w : World} {ops : Array Oper} {o : Oper} {a : Act} {K : Act → World → Prop} {Q : Exit → Act → World → Prop} {E : Prop}
theorem step_call (f : FuncId) (hgd : o.guard = none) (x : Operand) {tys : Array TypeId} (ho : o.op = .call { callee := .value (.func f), args := #[x], argTypes := tys }) {v : Value} (hx : a.eval x = v) (he : ∀ w, (callFunc f #[v]).run Tryz.prog w = .ok (.enter f #[v]) w)
    {J : Value → World → Prop} (hc : Calls Tryz.prog f #[v] w fun e w' => ∃ r, e = .returned r ∧ J r w') (h : ∀ r w', J r w' → K (a.put o.dst r) w') : if Region.wanted o (yielded ops a.tmps) = true then Oper.wp Tryz.prog o a w K Q else E := by
  have hw : Region.wanted o (yielded ops a.tmps) = true := by simp [Region.wanted, hgd]
  rw [if_pos hw]
  exact oper_any f #[x] tys ho #[v] (by simp [hx]) he hc h
theorem step_load_v (hgd : o.guard = none) (ty : TypeId) (x : Operand) (ho : o.op = .load ty x) {q v : Value} (hx : a.eval x = q) (hl : (Instr.loadAt ty q).run Tryz.prog w = .ok v w) (h : K (a.put o.dst v) w) : if Region.wanted o (yielded ops a.tmps) = true then Oper.wp Tryz.prog o a w K Q else E := by
  have hw : Region.wanted o (yielded ops a.tmps) = true := by simp [Region.wanted, hgd]
  rw [if_pos hw]
  unfold Oper.wp execOp
  simp only [ho, hx, Sem.run_bind, hl, Result.andThen_ok, Sem.run_pure]
  exact h
theorem step_append_ss (hgd : o.guard = none) (s x : Operand) (ho : o.op = .call { callee := .builtin .append, args := #[s, x], argTypes := #[31, 31] }) {base base' : Nat}
    {v u : Value} {n : Nat} {xs : List Value} {t : ByteArray} (hs : a.eval s = v) (hown : w.ownsRow base 9 1 v n xs) (hx : a.eval x = u) (hu : w.ownsRow base' 9 1 u 1 [.string t])
    (hbytes : n ≤ 100000) (hbase : base ≤ w.heap.size)
    (h : ∀ v' w', w'.ownsRow base 9 1 v' (n + 1) (xs ++ [.string t]) → w.grownBy w' v.ownBlock → K (a.put o.dst v') w') : if Region.wanted o (yielded ops a.tmps) = true then Oper.wp Tryz.prog o a w K Q else E := by
  have hw : Region.wanted o (yielded ops a.tmps) = true := by simp [Region.wanted, hgd]
  rw [if_pos hw]
  obtain ⟨-, ⟨_, h0⟩ | ⟨b, c, cur, rfl, _, hbk, _, _, _, ht⟩⟩ := hu
  · cases h0
  have k0 : cur[0]? = some (.string t) := by
    have := congrArg (·[0]?) ht
    simpa using this
  have hb := cell_of 0 hbk k0
  obtain ⟨i0, hi, hp⟩ := Option.map_eq_some_iff.1 infoS
  simp only [Prod.mk.injEq] at hp
  obtain ⟨hz0, hz1, hz2⟩ := hp
  obtain ⟨v', w', hr, h4, h5, _⟩ := run_append_own (P := Tryz.prog) w base 31 o.type 9 i0 (.string ⟨#[]⟩) 1 16 Tryz.underlying31 hi hz0 hz1 hz2 rfl (by decide) v n xs hown ⟨b, 0, none⟩ 1 c [.string t] rfl
    (by intro j u hj
        cases j with
        | zero => simp at hj; subst hj; exact hb
        | succ j => simp at hj) (by intro u hu; simp at hu; subst hu; rfl) (by unfold maxLen; omega) (by omega) hbase
  unfold Oper.wp execOp
  simp only [ho, resolve, invoke, builtin, Sem.run_bind, Sem.run_pure, Result.andThen_ok, List.map_toArray, List.map_cons, List.map_nil, hs, hx, hr]
  exact h v' w' h4 h5
end
set_option maxHeartbeats 8000000 in
set_option maxRecDepth 100000 in
theorem of_1 {g : Nat} {w : World} (hg : Sg1 w g alc) : Calls Tryz.prog 9 #[.agg (entA 1 0 [] (.slice (some ⟨g, 0, none⟩) 1 1))] w fun e w' => (∃ v, e = .returned (.tuple #[v, .nilIface]) ∧ w'.ownsRow w.heap.size 9 1 v 2 [.string kA, .string kB]) ∧ Below w.heap.size w w' := by
  obtain ⟨E, hE⟩ : ∃ E, E = entA 1 0 [] (.slice (some ⟨g, 0, none⟩) 1 1) := ⟨_, rfl⟩
  rw [← hE]
  obtain ⟨wb, hwb⟩ : ∃ wb, wb = w.alloc (.cells E 28) := ⟨_, rfl⟩
  have bb : Below w.heap.size w wb := by rw [hwb]; exact below_na _
  have hb := heap_na w E 28
  rw [← hwb] at hb
  have hgb := hg.below bb
  have hck := check_1 hgb
  rw [← hE] at hck
  have hx : En1 wb w.heap.size E := ⟨hb, by rw [hE]; rfl⟩
  have hlt : w.heap.size < wb.heap.size := (Array.getElem?_eq_some_iff.1 hb).1
  have r0 := hide1 (rng_of 0 (entC 1 0 [] (.slice (some ⟨g, 0, none⟩) 1 1)) hb (by rw [hE]; rfl))
  have hEc : (entC 1 0 [] (.slice (some ⟨g, 0, none⟩) 1 1)).toArray = E := by rw [hE]; rfl
  replace hE := hide1 hE
  replace hEc := hide1 hEc
  replace bb := hide1 bb
  replace hgb := hide1 hgb
  replace hb := hide1 hb
  replace hx := hide1 hx
  clear hg
  go_enter Tryz.func9, Tryz.ntmps9
  go_upto_region 1 with fail
  rw [← hwb]
  clear hwb
  go_wp2_with (first | (refine load_w rfl 28 (.tmp 1) rfl w.heap.size 0 rfl (entC 1 0 [] (.slice (some ⟨g, 0, none⟩) 1 1)) _ r0.out Tryz.underlying28 rfl (by kernel_rfl) ?_; rw [hEc.out]) | fail)
  refine hck.mono ?_
  rintro e w1 ⟨rfl, b1⟩
  have B1 := hide1 (bb.out.trans (b1.mono bb.out.size))
  have hx1 := hide1 (hx.out.below b1)
  have hg1 := hide1 (hgb.out.below b1)
  have hsz1 : w.heap.size < w1.heap.size := by have := b1.size; omega
  have hb1 := (b1.block _ hlt).trans hb.out
  have c7 : w1.cell? ⟨w.heap.size, 69, none⟩ = some (.slice (some ⟨g, 0, none⟩) 1 1) := cell_of 69 hb1 (by rw [hE.out]; rfl)
  have r1 := hide1 (rng_of 0 (entC 1 0 [] (.slice (some ⟨g, 0, none⟩) 1 1)) hb1 (by rw [hE.out]; rfl))
  clear hck b1 hb hx hgb bb r0 hb1
  go_upto_region 3 with fail
  have hgd : Sg1 w1.drew g alc := hg1.out
  have c7d : w1.drew.cell? ⟨w.heap.size, 69, none⟩ = some (.slice (some ⟨g, 0, none⟩) 1 1) := c7
  have hxd : En1 w1.drew w.heap.size E := hx1.out
  have hbd : Below w.heap.size w w1.drew := B1.out.drew
  have H1 : Calls Tryz.prog 29 #[.slice (some ⟨g, 0, none⟩) 1 1] w1.drew fun e w' => ∃ r, e = .returned r ∧ (w'.ownsRow w1.drew.heap.size 9 1 r 1 [.string kA] ∧ Below w1.drew.heap.size w1.drew w') := (ofSigs_a hgd).mono fun e w' h => by
    obtain ⟨⟨v, rfl, h1⟩, h2⟩ := h
    exact ⟨v, rfl, h1, h2⟩
  have H2 : ∀ w2, Calls Tryz.prog 30 #[.agg E] w2 fun e w' => ∃ r, e = .returned r ∧ (w'.ownsRow w2.heap.size 9 1 r 1 [.string kB] ∧ Below w2.heap.size w2 w') := fun w2 => by
    rw [hE.out]
    exact (ofBody_1 _ w2).mono fun e w' h => by
      obtain ⟨⟨v, rfl, h1⟩, h2⟩ := h
      exact ⟨v, rfl, h1, h2⟩
  have H3 : ∀ (v : Value) (base : Nat) (w4 : World), w4.ownsRow base 9 1 v 2 [.string kA, .string kB] → Calls Tryz.prog 28 #[v] w4 fun e w' => ∃ r, e = .returned r ∧ (r = v ∧ Below w4.heap.size w4 w') := fun v base w4 h => (rising_2 h).mono fun e w' h => ⟨v, h.1, rfl, h.2⟩
  replace H2 := hide1 H2
  replace H3 := hide1 H3
  replace hbd := hide1 hbd
  clear hgd hg1 hx1 r1
  clear c7
  refine wp_region_any (by kernel_rfl) ?_
  change wpAny _ _ _ _ _ _ _ (World.drew _)
  refine wpAny_take (i := 0) (v := .pointer (some ⟨w.heap.size, 69, none⟩)) rfl (by kernel_rfl) (by kernel_rfl) (by kernel_rfl) (fun _ _ _ h => h) (Or.inl ⟨by rfl, fun w => by kernel_rfl⟩) ?_
  refine wpAny_ready (rs := [1, 3]) (by kernel_rfl) (by simp) (AllReady.cons rfl (fun K hK => ?_) (AllReady.cons rfl (fun K hK => ?_) AllReady.nil))
  · refine step_load_v rfl 26 (.tmp 8) rfl (q := .pointer (some ⟨w.heap.size, 69, none⟩)) (by first | rfl | (simp [Act.eval]; done) | (simp [Act.eval, Act.put]; done)) (ldSl c7d) ?_
    refine hK _ _ ?_; clear hK K
    refine wpAny_ready (rs := [2, 3]) (by kernel_rfl) (by simp) (AllReady.cons rfl (fun K hK => ?_) (AllReady.cons rfl (fun K hK => ?_) AllReady.nil))
    · refine step_call 29 rfl (.tmp 9) rfl (v := .slice (some ⟨g, 0, none⟩) 1 1) (by first | rfl | (simp [Act.eval]; done) | (simp [Act.eval, Act.put]; done)) (fun w => by kernel_rfl) H1 ?_
      rintro v2 w2 ⟨o2, b2⟩
      refine hK _ _ ?_; clear hK K
      refine wpAny_ready (rs := [3]) (by kernel_rfl) (by simp) (AllReady.cons rfl (fun K hK => ?_) AllReady.nil)
      refine step_load_v rfl 28 (.tmp 1) rfl (q := .pointer (some ⟨w.heap.size, 0, none⟩)) (by first | rfl | (simp [Act.eval]; done) | (simp [Act.eval, Act.put]; done)) (ldEn (hxd.below b2)) ?_
      refine hK _ _ ?_; clear hK K
      refine wpAny_ready (rs := [4]) (by kernel_rfl) (by simp) (AllReady.cons rfl (fun K hK => ?_) AllReady.nil)
      refine step_call 30 rfl (.tmp 11) rfl (v := .agg E) (by first | rfl | (simp [Act.eval]; done) | (simp [Act.eval, Act.put]; done)) (fun w => by kernel_rfl) (H2.out w2) ?_
      rintro v3 w3 ⟨o3, b3⟩
      refine hK _ _ ?_; clear hK K
      refine wpAny_ready (rs := [5]) (by kernel_rfl) (by simp) (AllReady.cons rfl (fun K hK => ?_) AllReady.nil)
      refine step_append_ss rfl (.tmp 10) (.tmp 12) rfl (v := v2) (u := v3) (by first | rfl | (simp [Act.eval]; done) | (simp [Act.eval, Act.put]; done)) (own_below o2 b3) (by first | rfl | (simp [Act.eval]; done) | (simp [Act.eval, Act.put]; done)) o3 (by omega) (by have := b2.size; have := b3.size; omega) ?_
      intro v4 w4 o4 g4
      refine hK _ _ ?_; clear hK K
      refine wpAny_ready (rs := [6]) (by kernel_rfl) (by simp) (AllReady.cons rfl (fun K hK => ?_) AllReady.nil)
      refine step_call 28 rfl (.tmp 13) rfl (v := v4) (by first | rfl | (simp [Act.eval]; done) | (simp [Act.eval, Act.put]; done)) (fun w => by kernel_rfl) (H3.out v4 _ _ o4) ?_
      rintro v5 w5 ⟨rfl, b5⟩
      refine hK _ _ ?_; clear hK K
      refine wpAny_ready (rs := [7]) (by kernel_rfl) (by simp) (AllReady.cons rfl (fun K hK => ?_) AllReady.nil)
      go_simp
      refine hK _ _ ?_; clear hK K
      refine wpAny_ready (rs := [8]) (by kernel_rfl) (by simp) (AllReady.cons rfl (fun K hK => ?_) AllReady.nil)
      go_simp
      refine hK _ _ ?_; clear hK K
      refine wpAny_done (by kernel_rfl) ?_ _
      have k3 := hbd.out.trans ((b2.trans (b3.mono b2.size)).mono hbd.out.size)
      have k4 := k3.grown g4 (by have := k3.size; omega) (fun j e => by have := (o2.lt j e).1; have := hbd.out.size; omega)
      have k5 := hide1 (k4.trans (b5.mono k4.size))
      have o5 := own_base (own_below o4 b5) hbd.out.size
      clear o2 o3 o4 b2 b3 b5 g4 k3 k4 hxd H1 c7d
      go_wp2
      first | go_ret2 | go_ret
      exact ⟨⟨_, rfl, o5⟩, k5.out⟩
    · refine step_load_v rfl 28 (.tmp 1) rfl (q := .pointer (some ⟨w.heap.size, 0, none⟩)) (by first | rfl | (simp [Act.eval]; done) | (simp [Act.eval, Act.put]; done)) (ldEn (hxd)) ?_
      refine hK _ _ ?_; clear hK K
      refine wpAny_ready (rs := [2]) (by kernel_rfl) (by simp) (AllReady.cons rfl (fun K hK => ?_) AllReady.nil)
      refine step_call 29 rfl (.tmp 9) rfl (v := .slice (some ⟨g, 0, none⟩) 1 1) (by first | rfl | (simp [Act.eval]; done) | (simp [Act.eval, Act.put]; done)) (fun w => by kernel_rfl) H1 ?_
      rintro v2 w2 ⟨o2, b2⟩
      refine hK _ _ ?_; clear hK K
      refine wpAny_ready (rs := [4]) (by kernel_rfl) (by simp) (AllReady.cons rfl (fun K hK => ?_) AllReady.nil)
      refine step_call 30 rfl (.tmp 11) rfl (v := .agg E) (by first | rfl | (simp [Act.eval]; done) | (simp [Act.eval, Act.put]; done)) (fun w => by kernel_rfl) (H2.out w2) ?_
      rintro v3 w3 ⟨o3, b3⟩
      refine hK _ _ ?_; clear hK K
      refine wpAny_ready (rs := [5]) (by kernel_rfl) (by simp) (AllReady.cons rfl (fun K hK => ?_) AllReady.nil)
      refine step_append_ss rfl (.tmp 10) (.tmp 12) rfl (v := v2) (u := v3) (by first | rfl | (simp [Act.eval]; done) | (simp [Act.eval, Act.put]; done)) (own_below o2 b3) (by first | rfl | (simp [Act.eval]; done) | (simp [Act.eval, Act.put]; done)) o3 (by omega) (by have := b2.size; have := b3.size; omega) ?_
      intro v4 w4 o4 g4
      refine hK _ _ ?_; clear hK K
      refine wpAny_ready (rs := [6]) (by kernel_rfl) (by simp) (AllReady.cons rfl (fun K hK => ?_) AllReady.nil)
      refine step_call 28 rfl (.tmp 13) rfl (v := v4) (by first | rfl | (simp [Act.eval]; done) | (simp [Act.eval, Act.put]; done)) (fun w => by kernel_rfl) (H3.out v4 _ _ o4) ?_
      rintro v5 w5 ⟨rfl, b5⟩
      refine hK _ _ ?_; clear hK K
      refine wpAny_ready (rs := [7]) (by kernel_rfl) (by simp) (AllReady.cons rfl (fun K hK => ?_) AllReady.nil)
      go_simp
      refine hK _ _ ?_; clear hK K
      refine wpAny_ready (rs := [8]) (by kernel_rfl) (by simp) (AllReady.cons rfl (fun K hK => ?_) AllReady.nil)
      go_simp
      refine hK _ _ ?_; clear hK K
      refine wpAny_done (by kernel_rfl) ?_ _
      have k3 := hbd.out.trans ((b2.trans (b3.mono b2.size)).mono hbd.out.size)
      have k4 := k3.grown g4 (by have := k3.size; omega) (fun j e => by have := (o2.lt j e).1; have := hbd.out.size; omega)
      have k5 := hide1 (k4.trans (b5.mono k4.size))
      have o5 := own_base (own_below o4 b5) hbd.out.size
      clear o2 o3 o4 b2 b3 b5 g4 k3 k4 hxd H1 c7d
      go_wp2
      first | go_ret2 | go_ret
      exact ⟨⟨_, rfl, o5⟩, k5.out⟩
  · refine step_load_v rfl 28 (.tmp 1) rfl (q := .pointer (some ⟨w.heap.size, 0, none⟩)) (by first | rfl | (simp [Act.eval]; done) | (simp [Act.eval, Act.put]; done)) (ldEn (hxd)) ?_
    refine hK _ _ ?_; clear hK K
    refine wpAny_ready (rs := [1]) (by kernel_rfl) (by simp) (AllReady.cons rfl (fun K hK => ?_) AllReady.nil)
    refine step_load_v rfl 26 (.tmp 8) rfl (q := .pointer (some ⟨w.heap.size, 69, none⟩)) (by first | rfl | (simp [Act.eval]; done) | (simp [Act.eval, Act.put]; done)) (ldSl c7d) ?_
    refine hK _ _ ?_; clear hK K
    refine wpAny_ready (rs := [2]) (by kernel_rfl) (by simp) (AllReady.cons rfl (fun K hK => ?_) AllReady.nil)
    refine step_call 29 rfl (.tmp 9) rfl (v := .slice (some ⟨g, 0, none⟩) 1 1) (by first | rfl | (simp [Act.eval]; done) | (simp [Act.eval, Act.put]; done)) (fun w => by kernel_rfl) H1 ?_
    rintro v2 w2 ⟨o2, b2⟩
    refine hK _ _ ?_; clear hK K
    refine wpAny_ready (rs := [4]) (by kernel_rfl) (by simp) (AllReady.cons rfl (fun K hK => ?_) AllReady.nil)
    refine step_call 30 rfl (.tmp 11) rfl (v := .agg E) (by first | rfl | (simp [Act.eval]; done) | (simp [Act.eval, Act.put]; done)) (fun w => by kernel_rfl) (H2.out w2) ?_
    rintro v3 w3 ⟨o3, b3⟩
    refine hK _ _ ?_; clear hK K
    refine wpAny_ready (rs := [5]) (by kernel_rfl) (by simp) (AllReady.cons rfl (fun K hK => ?_) AllReady.nil)
    refine step_append_ss rfl (.tmp 10) (.tmp 12) rfl (v := v2) (u := v3) (by first | rfl | (simp [Act.eval]; done) | (simp [Act.eval, Act.put]; done)) (own_below o2 b3) (by first | rfl | (simp [Act.eval]; done) | (simp [Act.eval, Act.put]; done)) o3 (by omega) (by have := b2.size; have := b3.size; omega) ?_
    intro v4 w4 o4 g4
    refine hK _ _ ?_; clear hK K
    refine wpAny_ready (rs := [6]) (by kernel_rfl) (by simp) (AllReady.cons rfl (fun K hK => ?_) AllReady.nil)
    refine step_call 28 rfl (.tmp 13) rfl (v := v4) (by first | rfl | (simp [Act.eval]; done) | (simp [Act.eval, Act.put]; done)) (fun w => by kernel_rfl) (H3.out v4 _ _ o4) ?_
    rintro v5 w5 ⟨rfl, b5⟩
    refine hK _ _ ?_; clear hK K
    refine wpAny_ready (rs := [7]) (by kernel_rfl) (by simp) (AllReady.cons rfl (fun K hK => ?_) AllReady.nil)
    go_simp
    refine hK _ _ ?_; clear hK K
    refine wpAny_ready (rs := [8]) (by kernel_rfl) (by simp) (AllReady.cons rfl (fun K hK => ?_) AllReady.nil)
    go_simp
    refine hK _ _ ?_; clear hK K
    refine wpAny_done (by kernel_rfl) ?_ _
    have k3 := hbd.out.trans ((b2.trans (b3.mono b2.size)).mono hbd.out.size)
    have k4 := k3.grown g4 (by have := k3.size; omega) (fun j e => by have := (o2.lt j e).1; have := hbd.out.size; omega)
    have k5 := hide1 (k4.trans (b5.mono k4.size))
    have o5 := own_base (own_below o4 b5) hbd.out.size
    clear o2 o3 o4 b2 b3 b5 g4 k3 k4 hxd H1 c7d
    go_wp2
    first | go_ret2 | go_ret
    exact ⟨⟨_, rfl, o5⟩, k5.out⟩
theorem ldSt {w : World} {b o : Nat} {v : Value} (h1 : w.cell? ⟨b, o, none⟩ = some v) : (Instr.loadAt 9 (.pointer (some ⟨b, o, none⟩))).run Tryz.prog w = .ok v w := by
  simp [Instr.loadAt, Instr.sureAddr, go_sem, h1]
set_option maxHeartbeats 8000000 in
set_option maxRecDepth 100000 in
theorem alive_k (w : World) : Calls Tryz.prog 7 #[] w fun e w' => e = .returned (.bool true) ∧ Below w.heap.size w w' := by
  have hon := one_d w
  have hdg : Hid (∀ wa, Calls Tryz.prog 19 #[.agg (zC 32).toArray] wa fun e w' => e = .returned (.string kB) ∧ Below wa.heap.size wa w') := hide1 fun wa => digest_k (D := zL 32) (by unfold Byt zL; decide) (by decide) wa
  go_enter Tryz.func7, Tryz.ntmps7
  go_wp2_with fail
  refine hon.mono ?_
  rintro e w1 ⟨rfl, hg, b1⟩
  have hof := of_1 hg
  generalize hE : entA 1 0 [] (.slice (some ⟨w.heap.size + 1, 0, none⟩) 1 1) = E at *
  replace hE := hide1 hE
  clear hon hg
  go_wp2_with fail
  refine hof.mono ?_
  rintro e w2 ⟨⟨v, rfl, ho⟩, b2⟩
  have B2 := hide1 (b1.trans (b2.mono b1.size))
  obtain ⟨-, ⟨_, h0⟩ | ⟨b, cap, cur, rfl, _, hb, _, _, _, ht⟩⟩ := ho
  · cases h0
  have k0 : cur[0]? = some (.string kA) := by
    have := congrArg (·[0]?) ht
    simpa using this
  have k1 : cur[1]? = some (.string kB) := by
    have := congrArg (·[1]?) ht
    simpa using this
  have hlt := (Array.getElem?_eq_some_iff.1 hb).1
  have c0 : Hid (∀ wa, Below w2.heap.size w2 wa → wa.cell? ⟨b, 0, none⟩ = some (.string kA)) := hide1 fun wa h => cell_of 0 ((h.block _ hlt).trans hb) k0
  have c1 : Hid (∀ wa, Below w2.heap.size w2 wa → wa.cell? ⟨b, 1, none⟩ = some (.string kB)) := hide1 fun wa h => cell_of 1 ((h.block _ hlt).trans hb) k1
  clear hof b1 b2 hb k0 k1 hlt ht
  go_upto_region 2 with fail
  refine wp_flowG 28 _ _ (by kernel_rfl) (by kernel_rfl) (by kernel_rfl) rfl (fun j v _ => v = ([.nilIface, (.bool true), (.bool true), (.slice (some ⟨b, 0, none⟩) 2 cap), (.int .i64 2), (.bool true), (.bool true), (.bool true), (.slice (some ⟨b, 0, none⟩) 2 cap), (.pointer (some ⟨b, 0, none⟩)), (.string kA), (.bool true), (.bool true), (.bool true), (.slice (some ⟨b, 0, none⟩) 2 cap), (.pointer (some ⟨b, 1, none⟩)), (.string kB), (.agg (zC 32).toArray), (.string kB), (.bool true), (.bool true), (.bool true), (.slice (some ⟨b, 0, none⟩) 2 cap), (.pointer (some ⟨b, 1, none⟩)), (.string kB), (.int .i64 71), (.bool true), (.bool true), (.bool true)] : List Value).getD j undef) (fun _ _ _ _ h _ => h) ?_ ?_
  · intro j op hop hj a wa hwa hsz hsl hdep K hK
    match j, hop with
    | 0, hop =>
      obtain rfl := Option.some.inj hop
      have p2 : a.tmps.getD 2 undef = .nilIface := hsl 2 rfl
      exact .plain rfl (wp_val (w' := wa) (v := .nilIface) (by simp only [execOp, Act.eval]; rw [show a.tmps.getD 2 undef = _ from p2]; rfl) (hK _ _ (Below.refl _ _) rfl))
    | 1, hop =>
      obtain rfl := Option.some.inj hop
      have t0 : a.tmps.getD 8 undef = .nilIface := hdep 0 _ 8 rfl rfl ⟨⟨0, .data⟩, by simp, rfl, rfl⟩
      exact .plain rfl (wp_val (w' := wa) (v := (.bool true)) (by simp only [execOp, Act.eval]; rw [show a.tmps.getD 8 undef = _ from t0]; kernel_rfl) (hK _ _ (Below.refl _ _) rfl))
    | 2, hop =>
      obtain rfl := Option.some.inj hop
      have t1 : a.tmps.getD 9 undef = (.bool true) := hdep 1 _ 9 rfl rfl ⟨⟨1, .data⟩, by simp, rfl, rfl⟩
      exact .plain rfl (wp_val (w' := wa) (v := (.bool true)) (by simp only [execOp, Act.eval]; rw [show a.tmps.getD 9 undef = _ from t1]; rfl) (hK _ _ (Below.refl _ _) rfl))
    | 3, hop =>
      obtain rfl := Option.some.inj hop
      have gg : a.tmps.getD 10 undef = (.bool true) := hdep 2 _ 10 rfl rfl ⟨⟨2, .guard⟩, by simp, rfl, rfl⟩
      have p1 : a.tmps.getD 1 undef = (.slice (some ⟨b, 0, none⟩) 2 cap) := hsl 1 rfl
      exact .want rfl rfl (by rw [hsz]; simp) gg (wp_val (w' := wa) (v := (.slice (some ⟨b, 0, none⟩) 2 cap)) (by simp only [execOp, Act.eval]; rw [show a.tmps.getD 1 undef = _ from p1]; rfl) (hK _ _ (Below.refl _ _) rfl))
    | 4, hop =>
      obtain rfl := Option.some.inj hop
      have gg : a.tmps.getD 10 undef = (.bool true) := hdep 2 _ 10 rfl rfl ⟨⟨2, .guard⟩, by simp, rfl, rfl⟩
      have t3 : a.tmps.getD 11 undef = (.slice (some ⟨b, 0, none⟩) 2 cap) := hdep 3 _ 11 rfl rfl ⟨⟨3, .data⟩, by simp, rfl, rfl⟩
      exact .want rfl rfl (by rw [hsz]; simp) gg (wp_val (w' := wa) (v := (.int .i64 2)) (by simp only [execOp, resolve, invoke, builtin, Sem.run_bind, Sem.run_pure, Result.andThen_ok, List.map_toArray, List.map_cons, List.map_nil, Act.eval]; rw [show a.tmps.getD 11 undef = _ from t3]; kernel_rfl) (hK _ _ (Below.refl _ _) rfl))
    | 5, hop =>
      obtain rfl := Option.some.inj hop
      have gg : a.tmps.getD 10 undef = (.bool true) := hdep 2 _ 10 rfl rfl ⟨⟨2, .guard⟩, by simp, rfl, rfl⟩
      have t4 : a.tmps.getD 12 undef = (.int .i64 2) := hdep 4 _ 12 rfl rfl ⟨⟨4, .data⟩, by simp, rfl, rfl⟩
      exact .want rfl rfl (by rw [hsz]; simp) gg (wp_val (w' := wa) (v := (.bool true)) (by simp only [execOp, Act.eval]; rw [show a.tmps.getD 12 undef = _ from t4]; kernel_rfl) (hK _ _ (Below.refl _ _) rfl))
    | 6, hop =>
      obtain rfl := Option.some.inj hop
      have t2 : a.tmps.getD 10 undef = (.bool true) := hdep 2 _ 10 rfl rfl ⟨⟨2, .data⟩, by simp, rfl, rfl⟩
      have t5 : a.tmps.getD 13 undef = (.bool true) := hdep 5 _ 13 rfl rfl ⟨⟨5, .data⟩, by simp, rfl, rfl⟩
      exact .plain rfl (wp_val (w' := wa) (v := (.bool true)) (by simp only [execOp, Act.eval]; rw [show a.tmps.getD 10 undef = _ from t2, show a.tmps.getD 13 undef = _ from t5]; rfl) (hK _ _ (Below.refl _ _) rfl))
    | 7, hop =>
      obtain rfl := Option.some.inj hop
      have t6 : a.tmps.getD 14 undef = (.bool true) := hdep 6 _ 14 rfl rfl ⟨⟨6, .data⟩, by simp, rfl, rfl⟩
      exact .plain rfl (wp_val (w' := wa) (v := (.bool true)) (by simp only [execOp, Act.eval]; rw [show a.tmps.getD 14 undef = _ from t6]; rfl) (hK _ _ (Below.refl _ _) rfl))
    | 8, hop =>
      obtain rfl := Option.some.inj hop
      have gg : a.tmps.getD 15 undef = (.bool true) := hdep 7 _ 15 rfl rfl ⟨⟨7, .guard⟩, by simp, rfl, rfl⟩
      have p1 : a.tmps.getD 1 undef = (.slice (some ⟨b, 0, none⟩) 2 cap) := hsl 1 rfl
      exact .want rfl rfl (by rw [hsz]; simp) gg (wp_val (w' := wa) (v := (.slice (some ⟨b, 0, none⟩) 2 cap)) (by simp only [execOp, Act.eval]; rw [show a.tmps.getD 1 undef = _ from p1]; rfl) (hK _ _ (Below.refl _ _) rfl))
    | 9, hop =>
      obtain rfl := Option.some.inj hop
      have gg : a.tmps.getD 15 undef = (.bool true) := hdep 7 _ 15 rfl rfl ⟨⟨7, .guard⟩, by simp, rfl, rfl⟩
      have t8 : a.tmps.getD 16 undef = (.slice (some ⟨b, 0, none⟩) 2 cap) := hdep 8 _ 16 rfl rfl ⟨⟨8, .data⟩, by simp, rfl, rfl⟩
      exact .want rfl rfl (by rw [hsz]; simp) gg (wp_val (w' := wa) (v := (.pointer (some ⟨b, 0, none⟩))) (by simp only [execOp, Act.eval]; rw [show a.tmps.getD 16 undef = _ from t8]; kernel_rfl) (hK _ _ (Below.refl _ _) rfl))
    | 10, hop =>
      obtain rfl := Option.some.inj hop
      have gg : a.tmps.getD 15 undef = (.bool true) := hdep 7 _ 15 rfl rfl ⟨⟨7, .guard⟩, by simp, rfl, rfl⟩
      have t9 : a.tmps.getD 17 undef = (.pointer (some ⟨b, 0, none⟩)) := hdep 9 _ 17 rfl rfl ⟨⟨9, .data⟩, by simp, rfl, rfl⟩
      exact .want rfl rfl (by rw [hsz]; simp) gg (wp_val (w' := wa) (v := (.string kA)) (by simp only [execOp, Act.eval]; rw [show a.tmps.getD 17 undef = _ from t9]; simp only [Sem.run_bind, ldSt (c0.out wa hwa), Result.andThen_ok, Sem.run_pure]) (hK _ _ (Below.refl _ _) rfl))
    | 11, hop =>
      obtain rfl := Option.some.inj hop
      have gg : a.tmps.getD 15 undef = (.bool true) := hdep 7 _ 15 rfl rfl ⟨⟨7, .guard⟩, by simp, rfl, rfl⟩
      have t10 : a.tmps.getD 18 undef = (.string kA) := hdep 10 _ 18 rfl rfl ⟨⟨10, .data⟩, by simp, rfl, rfl⟩
      exact .want rfl rfl (by rw [hsz]; simp) gg (wp_val (w' := wa) (v := (.bool true)) (by simp only [execOp, Act.eval]; rw [show a.tmps.getD 18 undef = _ from t10]; kernel_rfl) (hK _ _ (Below.refl _ _) rfl))
    | 12, hop =>
      obtain rfl := Option.some.inj hop
      have t7 : a.tmps.getD 15 undef = (.bool true) := hdep 7 _ 15 rfl rfl ⟨⟨7, .data⟩, by simp, rfl, rfl⟩
      have t11 : a.tmps.getD 19 undef = (.bool true) := hdep 11 _ 19 rfl rfl ⟨⟨11, .data⟩, by simp, rfl, rfl⟩
      exact .plain rfl (wp_val (w' := wa) (v := (.bool true)) (by simp only [execOp, Act.eval]; rw [show a.tmps.getD 15 undef = _ from t7, show a.tmps.getD 19 undef = _ from t11]; rfl) (hK _ _ (Below.refl _ _) rfl))
    | 13, hop =>
      obtain rfl := Option.some.inj hop
      have t12 : a.tmps.getD 20 undef = (.bool true) := hdep 12 _ 20 rfl rfl ⟨⟨12, .data⟩, by simp, rfl, rfl⟩
      exact .plain rfl (wp_val (w' := wa) (v := (.bool true)) (by simp only [execOp, Act.eval]; rw [show a.tmps.getD 20 undef = _ from t12]; rfl) (hK _ _ (Below.refl _ _) rfl))
    | 14, hop =>
      obtain rfl := Option.some.inj hop
      have gg : a.tmps.getD 21 undef = (.bool true) := hdep 13 _ 21 rfl rfl ⟨⟨13, .guard⟩, by simp, rfl, rfl⟩
      have p1 : a.tmps.getD 1 undef = (.slice (some ⟨b, 0, none⟩) 2 cap) := hsl 1 rfl
      exact .want rfl rfl (by rw [hsz]; simp) gg (wp_val (w' := wa) (v := (.slice (some ⟨b, 0, none⟩) 2 cap)) (by simp only [execOp, Act.eval]; rw [show a.tmps.getD 1 undef = _ from p1]; rfl) (hK _ _ (Below.refl _ _) rfl))
    | 15, hop =>
      obtain rfl := Option.some.inj hop
      have gg : a.tmps.getD 21 undef = (.bool true) := hdep 13 _ 21 rfl rfl ⟨⟨13, .guard⟩, by simp, rfl, rfl⟩
      have t14 : a.tmps.getD 22 undef = (.slice (some ⟨b, 0, none⟩) 2 cap) := hdep 14 _ 22 rfl rfl ⟨⟨14, .data⟩, by simp, rfl, rfl⟩
      exact .want rfl rfl (by rw [hsz]; simp) gg (wp_val (w' := wa) (v := (.pointer (some ⟨b, 1, none⟩))) (by simp only [execOp, Act.eval]; rw [show a.tmps.getD 22 undef = _ from t14]; kernel_rfl) (hK _ _ (Below.refl _ _) rfl))
    | 16, hop =>
      obtain rfl := Option.some.inj hop
      have gg : a.tmps.getD 21 undef = (.bool true) := hdep 13 _ 21 rfl rfl ⟨⟨13, .guard⟩, by simp, rfl, rfl⟩
      have t15 : a.tmps.getD 23 undef = (.pointer (some ⟨b, 1, none⟩)) := hdep 15 _ 23 rfl rfl ⟨⟨15, .data⟩, by simp, rfl, rfl⟩
      exact .want rfl rfl (by rw [hsz]; simp) gg (wp_val (w' := wa) (v := (.string kB)) (by simp only [execOp, Act.eval]; rw [show a.tmps.getD 23 undef = _ from t15]; simp only [Sem.run_bind, ldSt (c1.out wa hwa), Result.andThen_ok, Sem.run_pure]) (hK _ _ (Below.refl _ _) rfl))
    | 17, hop =>
      obtain rfl := Option.some.inj hop
      have gg : a.tmps.getD 21 undef = (.bool true) := hdep 13 _ 21 rfl rfl ⟨⟨13, .guard⟩, by simp, rfl, rfl⟩
      exact .want rfl rfl (by rw [hsz]; simp) gg (wp_val (w' := wa) (v := (.agg (zC 32).toArray)) (by simp only [execOp, Act.eval]; kernel_rfl) (hK _ _ (Below.refl _ _) rfl))
    | 18, hop =>
      obtain rfl := Option.some.inj hop
      have gg : a.tmps.getD 21 undef = (.bool true) := hdep 13 _ 21 rfl rfl ⟨⟨13, .guard⟩, by simp, rfl, rfl⟩
      have t17 : a.tmps.getD 25 undef = (.agg (zC 32).toArray) := hdep 17 _ 25 rfl rfl ⟨⟨17, .data⟩, by simp, rfl, rfl⟩
      refine .want rfl rfl (by rw [hsz]; simp) gg (oper_any (J := fun r w' => r = (.string kB) ∧ Below wa.heap.size wa w') 19 #[.tmp 25] _ rfl #[(.agg (zC 32).toArray)] (by simp only [List.map_toArray, List.map_cons, List.map_nil, Act.eval]; rw [show a.tmps.getD 25 undef = _ from t17]) (fun w => by kernel_rfl) ((hdg.out wa).mono fun e w' h => ⟨_, h.1, rfl, h.2⟩) ?_)
      rintro r w' ⟨rfl, hb⟩
      exact hK _ _ hb rfl
    | 19, hop =>
      obtain rfl := Option.some.inj hop
      have gg : a.tmps.getD 21 undef = (.bool true) := hdep 13 _ 21 rfl rfl ⟨⟨13, .guard⟩, by simp, rfl, rfl⟩
      have t16 : a.tmps.getD 24 undef = (.string kB) := hdep 16 _ 24 rfl rfl ⟨⟨16, .data⟩, by simp, rfl, rfl⟩
      have t18 : a.tmps.getD 26 undef = (.string kB) := hdep 18 _ 26 rfl rfl ⟨⟨18, .data⟩, by simp, rfl, rfl⟩
      exact .want rfl rfl (by rw [hsz]; simp) gg (wp_val (w' := wa) (v := (.bool true)) (by simp only [execOp, Act.eval]; rw [show a.tmps.getD 24 undef = _ from t16, show a.tmps.getD 26 undef = _ from t18]; kernel_rfl) (hK _ _ (Below.refl _ _) rfl))
    | 20, hop =>
      obtain rfl := Option.some.inj hop
      have t13 : a.tmps.getD 21 undef = (.bool true) := hdep 13 _ 21 rfl rfl ⟨⟨13, .data⟩, by simp, rfl, rfl⟩
      have t19 : a.tmps.getD 27 undef = (.bool true) := hdep 19 _ 27 rfl rfl ⟨⟨19, .data⟩, by simp, rfl, rfl⟩
      exact .plain rfl (wp_val (w' := wa) (v := (.bool true)) (by simp only [execOp, Act.eval]; rw [show a.tmps.getD 21 undef = _ from t13, show a.tmps.getD 27 undef = _ from t19]; rfl) (hK _ _ (Below.refl _ _) rfl))
    | 21, hop =>
      obtain rfl := Option.some.inj hop
      have t20 : a.tmps.getD 28 undef = (.bool true) := hdep 20 _ 28 rfl rfl ⟨⟨20, .data⟩, by simp, rfl, rfl⟩
      exact .plain rfl (wp_val (w' := wa) (v := (.bool true)) (by simp only [execOp, Act.eval]; rw [show a.tmps.getD 28 undef = _ from t20]; rfl) (hK _ _ (Below.refl _ _) rfl))
    | 22, hop =>
      obtain rfl := Option.some.inj hop
      have gg : a.tmps.getD 29 undef = (.bool true) := hdep 21 _ 29 rfl rfl ⟨⟨21, .guard⟩, by simp, rfl, rfl⟩
      have p1 : a.tmps.getD 1 undef = (.slice (some ⟨b, 0, none⟩) 2 cap) := hsl 1 rfl
      exact .want rfl rfl (by rw [hsz]; simp) gg (wp_val (w' := wa) (v := (.slice (some ⟨b, 0, none⟩) 2 cap)) (by simp only [execOp, Act.eval]; rw [show a.tmps.getD 1 undef = _ from p1]; rfl) (hK _ _ (Below.refl _ _) rfl))
    | 23, hop =>
      obtain rfl := Option.some.inj hop
      have gg : a.tmps.getD 29 undef = (.bool true) := hdep 21 _ 29 rfl rfl ⟨⟨21, .guard⟩, by simp, rfl, rfl⟩
      have t22 : a.tmps.getD 30 undef = (.slice (some ⟨b, 0, none⟩) 2 cap) := hdep 22 _ 30 rfl rfl ⟨⟨22, .data⟩, by simp, rfl, rfl⟩
      exact .want rfl rfl (by rw [hsz]; simp) gg (wp_val (w' := wa) (v := (.pointer (some ⟨b, 1, none⟩))) (by simp only [execOp, Act.eval]; rw [show a.tmps.getD 30 undef = _ from t22]; kernel_rfl) (hK _ _ (Below.refl _ _) rfl))
    | 24, hop =>
      obtain rfl := Option.some.inj hop
      have gg : a.tmps.getD 29 undef = (.bool true) := hdep 21 _ 29 rfl rfl ⟨⟨21, .guard⟩, by simp, rfl, rfl⟩
      have t23 : a.tmps.getD 31 undef = (.pointer (some ⟨b, 1, none⟩)) := hdep 23 _ 31 rfl rfl ⟨⟨23, .data⟩, by simp, rfl, rfl⟩
      exact .want rfl rfl (by rw [hsz]; simp) gg (wp_val (w' := wa) (v := (.string kB)) (by simp only [execOp, Act.eval]; rw [show a.tmps.getD 31 undef = _ from t23]; simp only [Sem.run_bind, ldSt (c1.out wa hwa), Result.andThen_ok, Sem.run_pure]) (hK _ _ (Below.refl _ _) rfl))
    | 25, hop =>
      obtain rfl := Option.some.inj hop
      have gg : a.tmps.getD 29 undef = (.bool true) := hdep 21 _ 29 rfl rfl ⟨⟨21, .guard⟩, by simp, rfl, rfl⟩
      have t24 : a.tmps.getD 32 undef = (.string kB) := hdep 24 _ 32 rfl rfl ⟨⟨24, .data⟩, by simp, rfl, rfl⟩
      exact .want rfl rfl (by rw [hsz]; simp) gg (wp_val (w' := wa) (v := (.int .i64 71)) (by simp only [execOp, resolve, invoke, builtin, Sem.run_bind, Sem.run_pure, Result.andThen_ok, List.map_toArray, List.map_cons, List.map_nil, Act.eval]; rw [show a.tmps.getD 32 undef = _ from t24]; kernel_rfl) (hK _ _ (Below.refl _ _) rfl))
    | 26, hop =>
      obtain rfl := Option.some.inj hop
      have gg : a.tmps.getD 29 undef = (.bool true) := hdep 21 _ 29 rfl rfl ⟨⟨21, .guard⟩, by simp, rfl, rfl⟩
      have t25 : a.tmps.getD 33 undef = (.int .i64 71) := hdep 25 _ 33 rfl rfl ⟨⟨25, .data⟩, by simp, rfl, rfl⟩
      exact .want rfl rfl (by rw [hsz]; simp) gg (wp_val (w' := wa) (v := (.bool true)) (by simp only [execOp, Act.eval]; rw [show a.tmps.getD 33 undef = _ from t25]; kernel_rfl) (hK _ _ (Below.refl _ _) rfl))
    | 27, hop =>
      obtain rfl := Option.some.inj hop
      have t21 : a.tmps.getD 29 undef = (.bool true) := hdep 21 _ 29 rfl rfl ⟨⟨21, .data⟩, by simp, rfl, rfl⟩
      have t26 : a.tmps.getD 34 undef = (.bool true) := hdep 26 _ 34 rfl rfl ⟨⟨26, .data⟩, by simp, rfl, rfl⟩
      exact .plain rfl (wp_val (w' := wa) (v := (.bool true)) (by simp only [execOp, Act.eval]; rw [show a.tmps.getD 29 undef = _ from t21, show a.tmps.getD 34 undef = _ from t26]; rfl) (hK _ _ (Below.refl _ _) rfl))
    | 28, _ => exact absurd rfl hj
    | _ + 29, hop => exact absurd hop (by simp)
  · intro a wa hwa hdf hsz hsl hrr K hK
    have t27 : a.tmps.getD 35 undef = (.bool true) := hrr 27 _ 35 rfl (by decide) rfl
    refine .plain rfl (wp_val (w' := wa) (v := (.bool true)) (by simp only [execOp, Act.eval]; rw [show a.tmps.getD 35 undef = _ from t27]; rfl) ?_)
    refine hK _ wa ?_
    have hact := act_puts hdf hsz hsl
    clear hrr hsl hdf hsz hK t27
    simp only [List.filterMap_cons, List.filterMap_nil, List.foldl_cons, List.foldl_nil] at hact
    rw [hact]
    generalize a.tmps.getD 8 undef = y8
    generalize a.tmps.getD 9 undef = y9
    generalize a.tmps.getD 10 undef = y10
    generalize a.tmps.getD 11 undef = y11
    generalize a.tmps.getD 12 undef = y12
    generalize a.tmps.getD 13 undef = y13
    generalize a.tmps.getD 14 undef = y14
    generalize a.tmps.getD 15 undef = y15
    generalize a.tmps.getD 16 undef = y16
    generalize a.tmps.getD 17 undef = y17
    generalize a.tmps.getD 18 undef = y18
    generalize a.tmps.getD 19 undef = y19
    generalize a.tmps.getD 20 undef = y20
    generalize a.tmps.getD 21 undef = y21
    generalize a.tmps.getD 22 undef = y22
    generalize a.tmps.getD 23 undef = y23
    generalize a.tmps.getD 24 undef = y24
    generalize a.tmps.getD 25 undef = y25
    generalize a.tmps.getD 26 undef = y26
    generalize a.tmps.getD 27 undef = y27
    generalize a.tmps.getD 28 undef = y28
    generalize a.tmps.getD 29 undef = y29
    generalize a.tmps.getD 30 undef = y30
    generalize a.tmps.getD 31 undef = y31
    generalize a.tmps.getD 32 undef = y32
    generalize a.tmps.getD 33 undef = y33
    generalize a.tmps.getD 34 undef = y34
    generalize a.tmps.getD 35 undef = y35
    clear hact
    simp only [Act.put, List.setIfInBounds_toArray, List.set_cons_succ, List.set_cons_zero]
    have hfin := hide1 (B2.out.trans (hwa.mono B2.out.size))
    clear hwa c0 c1 hdg
    go_wp2
    go_ret
    exact ⟨rfl, hfin.out⟩
theorem eqbb (X : Bool) (w : World) : (binOp .eql 4 (.bool X) (.bool X)).run Tryz.prog w = .ok (.bool true) w := by cases X <;> kernel_rfl
theorem egbb {x u : Operand} (a b : Bool) (w : World) : (eqGuard .eql 4 x u (.bool a) (.bool b)).run Tryz.prog w = .ok () w := by simp [eqGuard, go_sem]
theorem eqss (s : ByteArray) (w : World) : (binOp .eql 9 (.string s) (.string s)).run Tryz.prog w = .ok (.bool true) w := by simp [binOp, Op.stringOp, go_sem]
theorem egss {x u : Operand} (a b : ByteArray) (w : World) : (eqGuard .eql 9 x u (.string a) (.string b)).run Tryz.prog w = .ok () w := by simp [eqGuard, go_sem]
theorem egad {x u : Operand} (a b : ByteArray) (w : World) : (eqGuard .add 9 x u (.string a) (.string b)).run Tryz.prog w = .ok () w := by simp [eqGuard, go_sem]
theorem addss {a b : ByteArray} (h : a.size + b.size ≤ 1000000000) (w : World) : (binOp .add 9 (.string a) (.string b)).run Tryz.prog w = .ok (.string (a ++ b)) w := by
  have h1 : ¬ 9223372036854775807 < a.size + b.size := by omega
  simp [binOp, go_sem, h1]
theorem ldSum {w : World} {g : Nat} {A : Array Value} (h : w.heap[g]? = some (.cells A 23 (0, 0)) ∧ A.size = 32) : (Instr.loadAt 23 (.pointer (some ⟨g, 0, none⟩))).run Tryz.prog w = .ok (.agg A) w := by
  have hl := run_loadVar_row (P := Tryz.prog) w g 23 23 A (0, 0) _ h.1 Tryz.underlying23 (by rfl) (by rw [h.2]; kernel_rfl)
  simp [Instr.loadAt, Instr.sureAddr, hl]
theorem ldKey {w : World} {g : Nat} {A : Array Value} (h : w.heap[g]? = some (.cells A 25 (0, 0)) ∧ A.size = 32) : (Instr.loadAt 25 (.pointer (some ⟨g, 0, none⟩))).run Tryz.prog w = .ok (.agg A) w := by
  have hl := run_loadVar_row (P := Tryz.prog) w g 25 25 A (0, 0) _ h.1 Tryz.underlying25 (by rfl) (by rw [h.2]; kernel_rfl)
  simp [Instr.loadAt, Instr.sureAddr, hl]
theorem fgs_hex {D : List Int} (hD : Byt D) (hn : D.length = 32) : fgs (hexE D) = true := by
  unfold fgs
  rw [ga4_hexE D hD, fx_yes hn]; rfl
theorem kIs_sh {D : List Int} (hD : Byt D) (hn : D.length = 32) : kIs (shP ++ hexE D) = true := by
  have h1 : idP.isPrefixOf (shP ++ hexE D) = false := rfl
  have h2 : shP.isPrefixOf (shP ++ hexE D) = true := List.isPrefixOf_iff_prefix.2 ⟨_, rfl⟩
  unfold kIs
  rw [h1, h2, if_neg (by decide), if_pos rfl]
  exact fgs_hex hD hn
theorem kIs_ky {D : List Int} (hD : Byt D) (hn : D.length = 32) : kIs (kyP ++ hexE D) = true := by
  have h1 : idP.isPrefixOf (kyP ++ hexE D) = false := rfl
  have h2 : shP.isPrefixOf (kyP ++ hexE D) = false := rfl
  have h3 : kyP.isPrefixOf (kyP ++ hexE D) = true := List.isPrefixOf_iff_prefix.2 ⟨_, rfl⟩
  unfold kIs
  rw [h1, h2, h3, if_neg (by decide), if_neg (by decide)]
  exact fgs_hex hD hn
theorem kIs_id (zs : List Int) : kIs (idP ++ zs) = nmd zs := by
  have h1 : idP.isPrefixOf (idP ++ zs) = true := List.isPrefixOf_iff_prefix.2 ⟨_, rfl⟩
  unfold kIs
  rw [h1, if_pos rfl]
  rfl
theorem byt_app {a b : List Int} (ha : Byt a) (hb : Byt b) : Byt (a ++ b) := fun z hz => (List.mem_append.1 hz).elim (ha z) (hb z)
set_option maxHeartbeats 16000000 in
set_option maxRecDepth 100000 in
theorem are_walk {zs D Kk : List Int} (hz : Byt zs) (hD : Byt D) (hDn : D.length = 32) (hK : Byt Kk) (hKn : Kk.length = 32) (w : World) :
    Calls Tryz.prog 4 #[.string (strOfNums zs), .agg (bA D), .agg (bA Kk)] w fun e w' => e = .returned (.bool true) ∧ Below w.heap.size w w' := by
  obtain ⟨wb, hwb⟩ : ∃ wb, wb = (w.alloc (.cells (bA D) 23)).alloc (.cells (bA Kk) 25) := ⟨_, rfl⟩
  have bb : Below w.heap.size w wb := by rw [hwb]; exact al2_bl w _ _
  have hb0 : wb.heap[w.heap.size]? = some (.cells (bA D) 23 (0, 0)) := by rw [hwb]; exact al2_at w _ _
  have hb1 : wb.heap[w.heap.size + 1]? = some (.cells (bA Kk) 25 (0, 0)) := by rw [hwb]; exact al2_top w _ _
  have hal := alive_k wb
  have hsz := str_size zs
  replace bb := hide1 bb
  by_cases hL : 1000 < zs.length
  · clear hb0 hb1
    generalize zs.length = len at *
    generalize strOfNums zs = S at *
    generalize bA D = AD at *
    generalize bA Kk = AK at *
    go_enter Tryz.func4, Tryz.ntmps4
    go_upto_region 1 with fail
    rw [← hwb]
    clear hwb
    go_wp2_with fail
    refine hal.mono ?_
    rintro e w1 ⟨rfl, b1⟩
    go_wp2
    go_ret
    exact ⟨rfl, bb.out.trans (b1.mono bb.out.size)⟩
  have hx1 : (hexE D).length = 64 := by rw [hexE_len, hDn]
  have hx2 : (hexE Kk).length = 64 := by rw [hexE_len, hKn]
  have hbD := hexE_byt D hD
  have hbK := hexE_byt Kk hK
  have p1 : Byt shP := by unfold Byt shP; decide
  have p2 : Byt kyP := by unfold Byt kyP; decide
  have p3 : Byt idP := by unfold Byt idP; decide
  have hi1 := hide1 (fun w => is_k hz (by omega) w)
  have hi2 := hide1 (fun w => is_r hz (by omega) w)
  have hi3 : Hid (∀ w, Calls Tryz.prog 17 #[.string (strOfNums (shP ++ hexE D))] w fun e w' => e = .returned (.bool true) ∧ Below w.heap.size w w') := hide1 fun w => by
    rw [← kIs_sh hD hDn]; exact is_k (byt_app p1 hbD) (by rw [List.length_append, hx1]; decide) w
  have hi4 : Hid (∀ w, Calls Tryz.prog 17 #[.string (strOfNums (kyP ++ hexE Kk))] w fun e w' => e = .returned (.bool true) ∧ Below w.heap.size w w') := hide1 fun w => by
    rw [← kIs_ky hK hKn]; exact is_k (byt_app p2 hbK) (by rw [List.length_append, hx2]; decide) w
  have hi5 : Hid (∀ w, Calls Tryz.prog 17 #[.string (strOfNums (idP ++ zs))] w fun e w' => e = .returned (.bool (nmd zs)) ∧ Below w.heap.size w w') := hide1 fun w => by
    rw [← kIs_id zs]; exact is_k (byt_app p3 hz) (by rw [List.length_append]; have : idP.length = 3 := rfl; omega) w
  have hdk := hide1 (fun w => digest_k hD hDn w)
  have hdr := hide1 (fun w => digest_r hD hDn w)
  have hkk := hide1 (fun w => key_k hK hKn w)
  have hkr := hide1 (fun w => key_r hK hKn w)
  have hid := hide1 (fun w => ident_k (s := zs) (by omega) w)
  have hnr := hide1 (fun w => named_r hz w)
  have hadd : Hid (∀ w, (binOp .add 9 (.string ⟨#[105, 100, 58]⟩) (.string (strOfNums zs))).run Tryz.prog w = .ok (.string (strOfNums (idP ++ zs))) w) := hide1 fun w => by
    rw [addss (by rw [hsz]; show 3 + zs.length ≤ _; omega), ← str_app]; rfl
  have hd : Hid (∀ wa, Below wb.heap.size wb wa → wa.heap[w.heap.size]? = some (.cells (bA D) 23 (0, 0)) ∧ (bA D).size = 32) := hide1 fun wa h => ⟨(h.block _ (Array.getElem?_eq_some_iff.1 hb0).1).trans hb0, by rw [bA_size, hDn]⟩
  have hk : Hid (∀ wa, Below wb.heap.size wb wa → wa.heap[w.heap.size + 1]? = some (.cells (bA Kk) 25 (0, 0)) ∧ (bA Kk).size = 32) := hide1 fun wa h => ⟨(h.block _ (Array.getElem?_eq_some_iff.1 hb1).1).trans hb1, by rw [bA_size, hKn]⟩
  clear hb0 hb1 hx1 hx2 hbD hbK p1 p2 p3 hz hD hDn hK hKn
  generalize kIs zs = X at *
  generalize nmd zs = Y at *
  generalize strOfNums (shP ++ hexE D) = SD at *
  generalize strOfNums (kyP ++ hexE Kk) = SK at *
  generalize strOfNums (idP ++ zs) = SI at *
  generalize zs.length = len at *
  generalize strOfNums zs = S at *
  generalize bA D = AD at *
  generalize bA Kk = AK at *
  go_enter Tryz.func4, Tryz.ntmps4
  go_upto_region 1 with fail
  rw [← hwb]
  clear hwb
  go_wp2_with fail
  refine hal.mono ?_
  rintro e w1 ⟨rfl, b1⟩
  have B1 := hide1 (bb.out.trans (b1.mono bb.out.size))
  replace hd : Hid (∀ wa, Below w1.heap.size w1 wa → wa.heap[w.heap.size]? = some (.cells AD 23 (0, 0)) ∧ AD.size = 32) := hide1 fun wa h => hd.out wa (b1.trans (h.mono b1.size))
  replace hk : Hid (∀ wa, Below w1.heap.size w1 wa → wa.heap[w.heap.size + 1]? = some (.cells AK 25 (0, 0)) ∧ AK.size = 32) := hide1 fun wa h => hk.out wa (b1.trans (h.mono b1.size))
  clear hal b1 bb
  go_upto_region 5 with fail
  refine wp_flowG 44 _ _ (by kernel_rfl) (by kernel_rfl) (by kernel_rfl) rfl (fun j v _ => v = ([(.string S), (.bool X), (.string S), (.bool X), (.bool true), (.bool true), (.agg AD), (.string SD), (.agg AD), (.string SD), (.bool true), (.bool true), (.bool true), (.agg AK), (.string SK), (.agg AK), (.string SK), (.bool true), (.bool true), (.bool true), (.string S), (.string SI), (.string S), (.string SI), (.bool true), (.bool true), (.bool true), (.agg AD), (.string SD), (.bool true), (.bool true), (.bool true), (.agg AK), (.string SK), (.bool true), (.bool true), (.bool true), (.string S), (.string SI), (.bool Y), (.string S), (.bool Y), (.bool true), (.bool true), (.bool true)] : List Value).getD j undef) (fun _ _ _ _ h _ => h) ?_ ?_
  · intro j op hop hj a wa hwa hsz hsl hdep K hK
    match j, hop with
    | 0, hop =>
      obtain rfl := Option.some.inj hop
      have p0 : a.tmps.getD 0 undef = (.string S) := hsl 0 rfl
      exact .plain rfl (wp_val (w' := wa) (v := (.string S)) (by simp only [execOp, Act.eval]; rw [show a.tmps.getD 0 undef = _ from p0]; rfl) (hK _ _ (Below.refl _ _) rfl))
    | 1, hop =>
      obtain rfl := Option.some.inj hop
      have t0 : a.tmps.getD 12 undef = (.string S) := hdep 0 _ 12 rfl rfl ⟨⟨0, .data⟩, by simp, rfl, rfl⟩
      refine .plain rfl (oper_any (J := fun r w' => r = (.bool X) ∧ Below wa.heap.size wa w') 17 #[.tmp 12] _ rfl #[(.string S)] (by simp only [List.map_toArray, List.map_cons, List.map_nil, Act.eval]; rw [show a.tmps.getD 12 undef = _ from t0]) (fun w => by kernel_rfl) ((hi1.out wa).mono fun e w' h => ⟨_, h.1, rfl, h.2⟩) ?_)
      rintro r w' ⟨rfl, hb⟩
      exact hK _ _ hb rfl
    | 2, hop =>
      obtain rfl := Option.some.inj hop
      have p0 : a.tmps.getD 0 undef = (.string S) := hsl 0 rfl
      exact .plain rfl (wp_val (w' := wa) (v := (.string S)) (by simp only [execOp, Act.eval]; rw [show a.tmps.getD 0 undef = _ from p0]; rfl) (hK _ _ (Below.refl _ _) rfl))
    | 3, hop =>
      obtain rfl := Option.some.inj hop
      have t2 : a.tmps.getD 14 undef = (.string S) := hdep 2 _ 14 rfl rfl ⟨⟨2, .data⟩, by simp, rfl, rfl⟩
      refine .plain rfl (oper_any (J := fun r w' => r = (.bool X) ∧ Below wa.heap.size wa w') 18 #[.tmp 14] _ rfl #[(.string S)] (by simp only [List.map_toArray, List.map_cons, List.map_nil, Act.eval]; rw [show a.tmps.getD 14 undef = _ from t2]) (fun w => by kernel_rfl) ((hi2.out wa).mono fun e w' h => ⟨_, h.1, rfl, h.2⟩) ?_)
      rintro r w' ⟨rfl, hb⟩
      exact hK _ _ hb rfl
    | 4, hop =>
      obtain rfl := Option.some.inj hop
      have t1 : a.tmps.getD 13 undef = (.bool X) := hdep 1 _ 13 rfl rfl ⟨⟨1, .data⟩, by simp, rfl, rfl⟩
      have t3 : a.tmps.getD 15 undef = (.bool X) := hdep 3 _ 15 rfl rfl ⟨⟨3, .data⟩, by simp, rfl, rfl⟩
      exact .plain rfl (wp_val (w' := wa) (v := (.bool true)) (by simp only [execOp, Act.eval]; rw [show a.tmps.getD 13 undef = _ from t1, show a.tmps.getD 15 undef = _ from t3]; simp only [Sem.run_bind, egbb, eqbb, Result.andThen_ok, Sem.run_pure]) (hK _ _ (Below.refl _ _) rfl))
    | 5, hop =>
      obtain rfl := Option.some.inj hop
      have t4 : a.tmps.getD 16 undef = (.bool true) := hdep 4 _ 16 rfl rfl ⟨⟨4, .data⟩, by simp, rfl, rfl⟩
      exact .plain rfl (wp_val (w' := wa) (v := (.bool true)) (by simp only [execOp, Act.eval]; rw [show a.tmps.getD 16 undef = _ from t4]; rfl) (hK _ _ (Below.refl _ _) rfl))
    | 6, hop =>
      obtain rfl := Option.some.inj hop
      have gg : a.tmps.getD 17 undef = (.bool true) := hdep 5 _ 17 rfl rfl ⟨⟨5, .guard⟩, by simp, rfl, rfl⟩
      have p4 : a.tmps.getD 4 undef = (.pointer (some ⟨w.heap.size, 0, none⟩)) := hsl 4 rfl
      exact .want rfl rfl (by rw [hsz]; simp) gg (wp_val (w' := wa) (v := (.agg AD)) (by simp only [execOp, Act.eval]; rw [show a.tmps.getD 4 undef = _ from p4]; simp only [Sem.run_bind, ldSum (hd.out wa hwa), Result.andThen_ok, Sem.run_pure]) (hK _ _ (Below.refl _ _) rfl))
    | 7, hop =>
      obtain rfl := Option.some.inj hop
      have gg : a.tmps.getD 17 undef = (.bool true) := hdep 5 _ 17 rfl rfl ⟨⟨5, .guard⟩, by simp, rfl, rfl⟩
      have t6 : a.tmps.getD 18 undef = (.agg AD) := hdep 6 _ 18 rfl rfl ⟨⟨6, .data⟩, by simp, rfl, rfl⟩
      refine .want rfl rfl (by rw [hsz]; simp) gg (oper_any (J := fun r w' => r = (.string SD) ∧ Below wa.heap.size wa w') 19 #[.tmp 18] _ rfl #[(.agg AD)] (by simp only [List.map_toArray, List.map_cons, List.map_nil, Act.eval]; rw [show a.tmps.getD 18 undef = _ from t6]) (fun w => by kernel_rfl) ((hdk.out wa).mono fun e w' h => ⟨_, h.1, rfl, h.2⟩) ?_)
      rintro r w' ⟨rfl, hb⟩
      exact hK _ _ hb rfl
    | 8, hop =>
      obtain rfl := Option.some.inj hop
      have gg : a.tmps.getD 17 undef = (.bool true) := hdep 5 _ 17 rfl rfl ⟨⟨5, .guard⟩, by simp, rfl, rfl⟩
      have p4 : a.tmps.getD 4 undef = (.pointer (some ⟨w.heap.size, 0, none⟩)) := hsl 4 rfl
      exact .want rfl rfl (by rw [hsz]; simp) gg (wp_val (w' := wa) (v := (.agg AD)) (by simp only [execOp, Act.eval]; rw [show a.tmps.getD 4 undef = _ from p4]; simp only [Sem.run_bind, ldSum (hd.out wa hwa), Result.andThen_ok, Sem.run_pure]) (hK _ _ (Below.refl _ _) rfl))
    | 9, hop =>
      obtain rfl := Option.some.inj hop
      have gg : a.tmps.getD 17 undef = (.bool true) := hdep 5 _ 17 rfl rfl ⟨⟨5, .guard⟩, by simp, rfl, rfl⟩
      have t8 : a.tmps.getD 20 undef = (.agg AD) := hdep 8 _ 20 rfl rfl ⟨⟨8, .data⟩, by simp, rfl, rfl⟩
      refine .want rfl rfl (by rw [hsz]; simp) gg (oper_any (J := fun r w' => r = (.string SD) ∧ Below wa.heap.size wa w') 20 #[.tmp 20] _ rfl #[(.agg AD)] (by simp only [List.map_toArray, List.map_cons, List.map_nil, Act.eval]; rw [show a.tmps.getD 20 undef = _ from t8]) (fun w => by kernel_rfl) ((hdr.out wa).mono fun e w' h => ⟨_, h.1, rfl, h.2⟩) ?_)
      rintro r w' ⟨rfl, hb⟩
      exact hK _ _ hb rfl
    | 10, hop =>
      obtain rfl := Option.some.inj hop
      have gg : a.tmps.getD 17 undef = (.bool true) := hdep 5 _ 17 rfl rfl ⟨⟨5, .guard⟩, by simp, rfl, rfl⟩
      have t7 : a.tmps.getD 19 undef = (.string SD) := hdep 7 _ 19 rfl rfl ⟨⟨7, .data⟩, by simp, rfl, rfl⟩
      have t9 : a.tmps.getD 21 undef = (.string SD) := hdep 9 _ 21 rfl rfl ⟨⟨9, .data⟩, by simp, rfl, rfl⟩
      exact .want rfl rfl (by rw [hsz]; simp) gg (wp_val (w' := wa) (v := (.bool true)) (by simp only [execOp, Act.eval]; rw [show a.tmps.getD 19 undef = _ from t7, show a.tmps.getD 21 undef = _ from t9]; simp only [Sem.run_bind, egss, eqss, Result.andThen_ok, Sem.run_pure]) (hK _ _ (Below.refl _ _) rfl))
    | 11, hop =>
      obtain rfl := Option.some.inj hop
      have t5 : a.tmps.getD 17 undef = (.bool true) := hdep 5 _ 17 rfl rfl ⟨⟨5, .data⟩, by simp, rfl, rfl⟩
      have t10 : a.tmps.getD 22 undef = (.bool true) := hdep 10 _ 22 rfl rfl ⟨⟨10, .data⟩, by simp, rfl, rfl⟩
      exact .plain rfl (wp_val (w' := wa) (v := (.bool true)) (by simp only [execOp, Act.eval]; rw [show a.tmps.getD 17 undef = _ from t5, show a.tmps.getD 22 undef = _ from t10]; rfl) (hK _ _ (Below.refl _ _) rfl))
    | 12, hop =>
      obtain rfl := Option.some.inj hop
      have t11 : a.tmps.getD 23 undef = (.bool true) := hdep 11 _ 23 rfl rfl ⟨⟨11, .data⟩, by simp, rfl, rfl⟩
      exact .plain rfl (wp_val (w' := wa) (v := (.bool true)) (by simp only [execOp, Act.eval]; rw [show a.tmps.getD 23 undef = _ from t11]; rfl) (hK _ _ (Below.refl _ _) rfl))
    | 13, hop =>
      obtain rfl := Option.some.inj hop
      have gg : a.tmps.getD 24 undef = (.bool true) := hdep 12 _ 24 rfl rfl ⟨⟨12, .guard⟩, by simp, rfl, rfl⟩
      have p5 : a.tmps.getD 5 undef = (.pointer (some ⟨w.heap.size + 1, 0, none⟩)) := hsl 5 rfl
      exact .want rfl rfl (by rw [hsz]; simp) gg (wp_val (w' := wa) (v := (.agg AK)) (by simp only [execOp, Act.eval]; rw [show a.tmps.getD 5 undef = _ from p5]; simp only [Sem.run_bind, ldKey (hk.out wa hwa), Result.andThen_ok, Sem.run_pure]) (hK _ _ (Below.refl _ _) rfl))
    | 14, hop =>
      obtain rfl := Option.some.inj hop
      have gg : a.tmps.getD 24 undef = (.bool true) := hdep 12 _ 24 rfl rfl ⟨⟨12, .guard⟩, by simp, rfl, rfl⟩
      have t13 : a.tmps.getD 25 undef = (.agg AK) := hdep 13 _ 25 rfl rfl ⟨⟨13, .data⟩, by simp, rfl, rfl⟩
      refine .want rfl rfl (by rw [hsz]; simp) gg (oper_any (J := fun r w' => r = (.string SK) ∧ Below wa.heap.size wa w') 21 #[.tmp 25] _ rfl #[(.agg AK)] (by simp only [List.map_toArray, List.map_cons, List.map_nil, Act.eval]; rw [show a.tmps.getD 25 undef = _ from t13]) (fun w => by kernel_rfl) ((hkk.out wa).mono fun e w' h => ⟨_, h.1, rfl, h.2⟩) ?_)
      rintro r w' ⟨rfl, hb⟩
      exact hK _ _ hb rfl
    | 15, hop =>
      obtain rfl := Option.some.inj hop
      have gg : a.tmps.getD 24 undef = (.bool true) := hdep 12 _ 24 rfl rfl ⟨⟨12, .guard⟩, by simp, rfl, rfl⟩
      have p5 : a.tmps.getD 5 undef = (.pointer (some ⟨w.heap.size + 1, 0, none⟩)) := hsl 5 rfl
      exact .want rfl rfl (by rw [hsz]; simp) gg (wp_val (w' := wa) (v := (.agg AK)) (by simp only [execOp, Act.eval]; rw [show a.tmps.getD 5 undef = _ from p5]; simp only [Sem.run_bind, ldKey (hk.out wa hwa), Result.andThen_ok, Sem.run_pure]) (hK _ _ (Below.refl _ _) rfl))
    | 16, hop =>
      obtain rfl := Option.some.inj hop
      have gg : a.tmps.getD 24 undef = (.bool true) := hdep 12 _ 24 rfl rfl ⟨⟨12, .guard⟩, by simp, rfl, rfl⟩
      have t15 : a.tmps.getD 27 undef = (.agg AK) := hdep 15 _ 27 rfl rfl ⟨⟨15, .data⟩, by simp, rfl, rfl⟩
      refine .want rfl rfl (by rw [hsz]; simp) gg (oper_any (J := fun r w' => r = (.string SK) ∧ Below wa.heap.size wa w') 22 #[.tmp 27] _ rfl #[(.agg AK)] (by simp only [List.map_toArray, List.map_cons, List.map_nil, Act.eval]; rw [show a.tmps.getD 27 undef = _ from t15]) (fun w => by kernel_rfl) ((hkr.out wa).mono fun e w' h => ⟨_, h.1, rfl, h.2⟩) ?_)
      rintro r w' ⟨rfl, hb⟩
      exact hK _ _ hb rfl
    | 17, hop =>
      obtain rfl := Option.some.inj hop
      have gg : a.tmps.getD 24 undef = (.bool true) := hdep 12 _ 24 rfl rfl ⟨⟨12, .guard⟩, by simp, rfl, rfl⟩
      have t14 : a.tmps.getD 26 undef = (.string SK) := hdep 14 _ 26 rfl rfl ⟨⟨14, .data⟩, by simp, rfl, rfl⟩
      have t16 : a.tmps.getD 28 undef = (.string SK) := hdep 16 _ 28 rfl rfl ⟨⟨16, .data⟩, by simp, rfl, rfl⟩
      exact .want rfl rfl (by rw [hsz]; simp) gg (wp_val (w' := wa) (v := (.bool true)) (by simp only [execOp, Act.eval]; rw [show a.tmps.getD 26 undef = _ from t14, show a.tmps.getD 28 undef = _ from t16]; simp only [Sem.run_bind, egss, eqss, Result.andThen_ok, Sem.run_pure]) (hK _ _ (Below.refl _ _) rfl))
    | 18, hop =>
      obtain rfl := Option.some.inj hop
      have t12 : a.tmps.getD 24 undef = (.bool true) := hdep 12 _ 24 rfl rfl ⟨⟨12, .data⟩, by simp, rfl, rfl⟩
      have t17 : a.tmps.getD 29 undef = (.bool true) := hdep 17 _ 29 rfl rfl ⟨⟨17, .data⟩, by simp, rfl, rfl⟩
      exact .plain rfl (wp_val (w' := wa) (v := (.bool true)) (by simp only [execOp, Act.eval]; rw [show a.tmps.getD 24 undef = _ from t12, show a.tmps.getD 29 undef = _ from t17]; rfl) (hK _ _ (Below.refl _ _) rfl))
    | 19, hop =>
      obtain rfl := Option.some.inj hop
      have t18 : a.tmps.getD 30 undef = (.bool true) := hdep 18 _ 30 rfl rfl ⟨⟨18, .data⟩, by simp, rfl, rfl⟩
      exact .plain rfl (wp_val (w' := wa) (v := (.bool true)) (by simp only [execOp, Act.eval]; rw [show a.tmps.getD 30 undef = _ from t18]; rfl) (hK _ _ (Below.refl _ _) rfl))
    | 20, hop =>
      obtain rfl := Option.some.inj hop
      have gg : a.tmps.getD 31 undef = (.bool true) := hdep 19 _ 31 rfl rfl ⟨⟨19, .guard⟩, by simp, rfl, rfl⟩
      have p0 : a.tmps.getD 0 undef = (.string S) := hsl 0 rfl
      exact .want rfl rfl (by rw [hsz]; simp) gg (wp_val (w' := wa) (v := (.string S)) (by simp only [execOp, Act.eval]; rw [show a.tmps.getD 0 undef = _ from p0]; rfl) (hK _ _ (Below.refl _ _) rfl))
    | 21, hop =>
      obtain rfl := Option.some.inj hop
      have gg : a.tmps.getD 31 undef = (.bool true) := hdep 19 _ 31 rfl rfl ⟨⟨19, .guard⟩, by simp, rfl, rfl⟩
      have t20 : a.tmps.getD 32 undef = (.string S) := hdep 20 _ 32 rfl rfl ⟨⟨20, .data⟩, by simp, rfl, rfl⟩
      refine .want rfl rfl (by rw [hsz]; simp) gg (oper_any (J := fun r w' => r = (.string SI) ∧ Below wa.heap.size wa w') 23 #[.tmp 32] _ rfl #[(.string S)] (by simp only [List.map_toArray, List.map_cons, List.map_nil, Act.eval]; rw [show a.tmps.getD 32 undef = _ from t20]) (fun w => by kernel_rfl) ((hid.out wa).mono fun e w' h => ⟨_, h.1, rfl, by rw [h.2]; exact Below.refl _ _⟩) ?_)
      rintro r w' ⟨rfl, hb⟩
      exact hK _ _ hb rfl
    | 22, hop =>
      obtain rfl := Option.some.inj hop
      have gg : a.tmps.getD 31 undef = (.bool true) := hdep 19 _ 31 rfl rfl ⟨⟨19, .guard⟩, by simp, rfl, rfl⟩
      have p0 : a.tmps.getD 0 undef = (.string S) := hsl 0 rfl
      exact .want rfl rfl (by rw [hsz]; simp) gg (wp_val (w' := wa) (v := (.string S)) (by simp only [execOp, Act.eval]; rw [show a.tmps.getD 0 undef = _ from p0]; rfl) (hK _ _ (Below.refl _ _) rfl))
    | 23, hop =>
      obtain rfl := Option.some.inj hop
      have gg : a.tmps.getD 31 undef = (.bool true) := hdep 19 _ 31 rfl rfl ⟨⟨19, .guard⟩, by simp, rfl, rfl⟩
      have t22 : a.tmps.getD 34 undef = (.string S) := hdep 22 _ 34 rfl rfl ⟨⟨22, .data⟩, by simp, rfl, rfl⟩
      exact .want rfl rfl (by rw [hsz]; simp) gg (wp_val (w' := wa) (v := (.string SI)) (by simp only [execOp, Act.eval]; rw [show a.tmps.getD 34 undef = _ from t22]; simp only [Sem.run_bind, egad, hadd.out, Result.andThen_ok, Sem.run_pure]) (hK _ _ (Below.refl _ _) rfl))
    | 24, hop =>
      obtain rfl := Option.some.inj hop
      have gg : a.tmps.getD 31 undef = (.bool true) := hdep 19 _ 31 rfl rfl ⟨⟨19, .guard⟩, by simp, rfl, rfl⟩
      have t21 : a.tmps.getD 33 undef = (.string SI) := hdep 21 _ 33 rfl rfl ⟨⟨21, .data⟩, by simp, rfl, rfl⟩
      have t23 : a.tmps.getD 35 undef = (.string SI) := hdep 23 _ 35 rfl rfl ⟨⟨23, .data⟩, by simp, rfl, rfl⟩
      exact .want rfl rfl (by rw [hsz]; simp) gg (wp_val (w' := wa) (v := (.bool true)) (by simp only [execOp, Act.eval]; rw [show a.tmps.getD 33 undef = _ from t21, show a.tmps.getD 35 undef = _ from t23]; simp only [Sem.run_bind, egss, eqss, Result.andThen_ok, Sem.run_pure]) (hK _ _ (Below.refl _ _) rfl))
    | 25, hop =>
      obtain rfl := Option.some.inj hop
      have t19 : a.tmps.getD 31 undef = (.bool true) := hdep 19 _ 31 rfl rfl ⟨⟨19, .data⟩, by simp, rfl, rfl⟩
      have t24 : a.tmps.getD 36 undef = (.bool true) := hdep 24 _ 36 rfl rfl ⟨⟨24, .data⟩, by simp, rfl, rfl⟩
      exact .plain rfl (wp_val (w' := wa) (v := (.bool true)) (by simp only [execOp, Act.eval]; rw [show a.tmps.getD 31 undef = _ from t19, show a.tmps.getD 36 undef = _ from t24]; rfl) (hK _ _ (Below.refl _ _) rfl))
    | 26, hop =>
      obtain rfl := Option.some.inj hop
      have t25 : a.tmps.getD 37 undef = (.bool true) := hdep 25 _ 37 rfl rfl ⟨⟨25, .data⟩, by simp, rfl, rfl⟩
      exact .plain rfl (wp_val (w' := wa) (v := (.bool true)) (by simp only [execOp, Act.eval]; rw [show a.tmps.getD 37 undef = _ from t25]; rfl) (hK _ _ (Below.refl _ _) rfl))
    | 27, hop =>
      obtain rfl := Option.some.inj hop
      have gg : a.tmps.getD 38 undef = (.bool true) := hdep 26 _ 38 rfl rfl ⟨⟨26, .guard⟩, by simp, rfl, rfl⟩
      have p4 : a.tmps.getD 4 undef = (.pointer (some ⟨w.heap.size, 0, none⟩)) := hsl 4 rfl
      exact .want rfl rfl (by rw [hsz]; simp) gg (wp_val (w' := wa) (v := (.agg AD)) (by simp only [execOp, Act.eval]; rw [show a.tmps.getD 4 undef = _ from p4]; simp only [Sem.run_bind, ldSum (hd.out wa hwa), Result.andThen_ok, Sem.run_pure]) (hK _ _ (Below.refl _ _) rfl))
    | 28, hop =>
      obtain rfl := Option.some.inj hop
      have gg : a.tmps.getD 38 undef = (.bool true) := hdep 26 _ 38 rfl rfl ⟨⟨26, .guard⟩, by simp, rfl, rfl⟩
      have t27 : a.tmps.getD 39 undef = (.agg AD) := hdep 27 _ 39 rfl rfl ⟨⟨27, .data⟩, by simp, rfl, rfl⟩
      refine .want rfl rfl (by rw [hsz]; simp) gg (oper_any (J := fun r w' => r = (.string SD) ∧ Below wa.heap.size wa w') 19 #[.tmp 39] _ rfl #[(.agg AD)] (by simp only [List.map_toArray, List.map_cons, List.map_nil, Act.eval]; rw [show a.tmps.getD 39 undef = _ from t27]) (fun w => by kernel_rfl) ((hdk.out wa).mono fun e w' h => ⟨_, h.1, rfl, h.2⟩) ?_)
      rintro r w' ⟨rfl, hb⟩
      exact hK _ _ hb rfl
    | 29, hop =>
      obtain rfl := Option.some.inj hop
      have gg : a.tmps.getD 38 undef = (.bool true) := hdep 26 _ 38 rfl rfl ⟨⟨26, .guard⟩, by simp, rfl, rfl⟩
      have t28 : a.tmps.getD 40 undef = (.string SD) := hdep 28 _ 40 rfl rfl ⟨⟨28, .data⟩, by simp, rfl, rfl⟩
      refine .want rfl rfl (by rw [hsz]; simp) gg (oper_any (J := fun r w' => r = (.bool true) ∧ Below wa.heap.size wa w') 17 #[.tmp 40] _ rfl #[(.string SD)] (by simp only [List.map_toArray, List.map_cons, List.map_nil, Act.eval]; rw [show a.tmps.getD 40 undef = _ from t28]) (fun w => by kernel_rfl) ((hi3.out wa).mono fun e w' h => ⟨_, h.1, rfl, h.2⟩) ?_)
      rintro r w' ⟨rfl, hb⟩
      exact hK _ _ hb rfl
    | 30, hop =>
      obtain rfl := Option.some.inj hop
      have t26 : a.tmps.getD 38 undef = (.bool true) := hdep 26 _ 38 rfl rfl ⟨⟨26, .data⟩, by simp, rfl, rfl⟩
      have t29 : a.tmps.getD 41 undef = (.bool true) := hdep 29 _ 41 rfl rfl ⟨⟨29, .data⟩, by simp, rfl, rfl⟩
      exact .plain rfl (wp_val (w' := wa) (v := (.bool true)) (by simp only [execOp, Act.eval]; rw [show a.tmps.getD 38 undef = _ from t26, show a.tmps.getD 41 undef = _ from t29]; rfl) (hK _ _ (Below.refl _ _) rfl))
    | 31, hop =>
      obtain rfl := Option.some.inj hop
      have t30 : a.tmps.getD 42 undef = (.bool true) := hdep 30 _ 42 rfl rfl ⟨⟨30, .data⟩, by simp, rfl, rfl⟩
      exact .plain rfl (wp_val (w' := wa) (v := (.bool true)) (by simp only [execOp, Act.eval]; rw [show a.tmps.getD 42 undef = _ from t30]; rfl) (hK _ _ (Below.refl _ _) rfl))
    | 32, hop =>
      obtain rfl := Option.some.inj hop
      have gg : a.tmps.getD 43 undef = (.bool true) := hdep 31 _ 43 rfl rfl ⟨⟨31, .guard⟩, by simp, rfl, rfl⟩
      have p5 : a.tmps.getD 5 undef = (.pointer (some ⟨w.heap.size + 1, 0, none⟩)) := hsl 5 rfl
      exact .want rfl rfl (by rw [hsz]; simp) gg (wp_val (w' := wa) (v := (.agg AK)) (by simp only [execOp, Act.eval]; rw [show a.tmps.getD 5 undef = _ from p5]; simp only [Sem.run_bind, ldKey (hk.out wa hwa), Result.andThen_ok, Sem.run_pure]) (hK _ _ (Below.refl _ _) rfl))
    | 33, hop =>
      obtain rfl := Option.some.inj hop
      have gg : a.tmps.getD 43 undef = (.bool true) := hdep 31 _ 43 rfl rfl ⟨⟨31, .guard⟩, by simp, rfl, rfl⟩
      have t32 : a.tmps.getD 44 undef = (.agg AK) := hdep 32 _ 44 rfl rfl ⟨⟨32, .data⟩, by simp, rfl, rfl⟩
      refine .want rfl rfl (by rw [hsz]; simp) gg (oper_any (J := fun r w' => r = (.string SK) ∧ Below wa.heap.size wa w') 21 #[.tmp 44] _ rfl #[(.agg AK)] (by simp only [List.map_toArray, List.map_cons, List.map_nil, Act.eval]; rw [show a.tmps.getD 44 undef = _ from t32]) (fun w => by kernel_rfl) ((hkk.out wa).mono fun e w' h => ⟨_, h.1, rfl, h.2⟩) ?_)
      rintro r w' ⟨rfl, hb⟩
      exact hK _ _ hb rfl
    | 34, hop =>
      obtain rfl := Option.some.inj hop
      have gg : a.tmps.getD 43 undef = (.bool true) := hdep 31 _ 43 rfl rfl ⟨⟨31, .guard⟩, by simp, rfl, rfl⟩
      have t33 : a.tmps.getD 45 undef = (.string SK) := hdep 33 _ 45 rfl rfl ⟨⟨33, .data⟩, by simp, rfl, rfl⟩
      refine .want rfl rfl (by rw [hsz]; simp) gg (oper_any (J := fun r w' => r = (.bool true) ∧ Below wa.heap.size wa w') 17 #[.tmp 45] _ rfl #[(.string SK)] (by simp only [List.map_toArray, List.map_cons, List.map_nil, Act.eval]; rw [show a.tmps.getD 45 undef = _ from t33]) (fun w => by kernel_rfl) ((hi4.out wa).mono fun e w' h => ⟨_, h.1, rfl, h.2⟩) ?_)
      rintro r w' ⟨rfl, hb⟩
      exact hK _ _ hb rfl
    | 35, hop =>
      obtain rfl := Option.some.inj hop
      have t31 : a.tmps.getD 43 undef = (.bool true) := hdep 31 _ 43 rfl rfl ⟨⟨31, .data⟩, by simp, rfl, rfl⟩
      have t34 : a.tmps.getD 46 undef = (.bool true) := hdep 34 _ 46 rfl rfl ⟨⟨34, .data⟩, by simp, rfl, rfl⟩
      exact .plain rfl (wp_val (w' := wa) (v := (.bool true)) (by simp only [execOp, Act.eval]; rw [show a.tmps.getD 43 undef = _ from t31, show a.tmps.getD 46 undef = _ from t34]; rfl) (hK _ _ (Below.refl _ _) rfl))
    | 36, hop =>
      obtain rfl := Option.some.inj hop
      have t35 : a.tmps.getD 47 undef = (.bool true) := hdep 35 _ 47 rfl rfl ⟨⟨35, .data⟩, by simp, rfl, rfl⟩
      exact .plain rfl (wp_val (w' := wa) (v := (.bool true)) (by simp only [execOp, Act.eval]; rw [show a.tmps.getD 47 undef = _ from t35]; rfl) (hK _ _ (Below.refl _ _) rfl))
    | 37, hop =>
      obtain rfl := Option.some.inj hop
      have gg : a.tmps.getD 48 undef = (.bool true) := hdep 36 _ 48 rfl rfl ⟨⟨36, .guard⟩, by simp, rfl, rfl⟩
      have p0 : a.tmps.getD 0 undef = (.string S) := hsl 0 rfl
      exact .want rfl rfl (by rw [hsz]; simp) gg (wp_val (w' := wa) (v := (.string S)) (by simp only [execOp, Act.eval]; rw [show a.tmps.getD 0 undef = _ from p0]; rfl) (hK _ _ (Below.refl _ _) rfl))
    | 38, hop =>
      obtain rfl := Option.some.inj hop
      have gg : a.tmps.getD 48 undef = (.bool true) := hdep 36 _ 48 rfl rfl ⟨⟨36, .guard⟩, by simp, rfl, rfl⟩
      have t37 : a.tmps.getD 49 undef = (.string S) := hdep 37 _ 49 rfl rfl ⟨⟨37, .data⟩, by simp, rfl, rfl⟩
      refine .want rfl rfl (by rw [hsz]; simp) gg (oper_any (J := fun r w' => r = (.string SI) ∧ Below wa.heap.size wa w') 23 #[.tmp 49] _ rfl #[(.string S)] (by simp only [List.map_toArray, List.map_cons, List.map_nil, Act.eval]; rw [show a.tmps.getD 49 undef = _ from t37]) (fun w => by kernel_rfl) ((hid.out wa).mono fun e w' h => ⟨_, h.1, rfl, by rw [h.2]; exact Below.refl _ _⟩) ?_)
      rintro r w' ⟨rfl, hb⟩
      exact hK _ _ hb rfl
    | 39, hop =>
      obtain rfl := Option.some.inj hop
      have gg : a.tmps.getD 48 undef = (.bool true) := hdep 36 _ 48 rfl rfl ⟨⟨36, .guard⟩, by simp, rfl, rfl⟩
      have t38 : a.tmps.getD 50 undef = (.string SI) := hdep 38 _ 50 rfl rfl ⟨⟨38, .data⟩, by simp, rfl, rfl⟩
      refine .want rfl rfl (by rw [hsz]; simp) gg (oper_any (J := fun r w' => r = (.bool Y) ∧ Below wa.heap.size wa w') 17 #[.tmp 50] _ rfl #[(.string SI)] (by simp only [List.map_toArray, List.map_cons, List.map_nil, Act.eval]; rw [show a.tmps.getD 50 undef = _ from t38]) (fun w => by kernel_rfl) ((hi5.out wa).mono fun e w' h => ⟨_, h.1, rfl, h.2⟩) ?_)
      rintro r w' ⟨rfl, hb⟩
      exact hK _ _ hb rfl
    | 40, hop =>
      obtain rfl := Option.some.inj hop
      have gg : a.tmps.getD 48 undef = (.bool true) := hdep 36 _ 48 rfl rfl ⟨⟨36, .guard⟩, by simp, rfl, rfl⟩
      have p0 : a.tmps.getD 0 undef = (.string S) := hsl 0 rfl
      exact .want rfl rfl (by rw [hsz]; simp) gg (wp_val (w' := wa) (v := (.string S)) (by simp only [execOp, Act.eval]; rw [show a.tmps.getD 0 undef = _ from p0]; rfl) (hK _ _ (Below.refl _ _) rfl))
    | 41, hop =>
      obtain rfl := Option.some.inj hop
      have gg : a.tmps.getD 48 undef = (.bool true) := hdep 36 _ 48 rfl rfl ⟨⟨36, .guard⟩, by simp, rfl, rfl⟩
      have t40 : a.tmps.getD 52 undef = (.string S) := hdep 40 _ 52 rfl rfl ⟨⟨40, .data⟩, by simp, rfl, rfl⟩
      refine .want rfl rfl (by rw [hsz]; simp) gg (oper_any (J := fun r w' => r = (.bool Y) ∧ Below wa.heap.size wa w') 24 #[.tmp 52] _ rfl #[(.string S)] (by simp only [List.map_toArray, List.map_cons, List.map_nil, Act.eval]; rw [show a.tmps.getD 52 undef = _ from t40]) (fun w => by kernel_rfl) ((hnr.out wa).mono fun e w' h => ⟨_, h.1, rfl, by rw [h.2]; exact Below.refl _ _⟩) ?_)
      rintro r w' ⟨rfl, hb⟩
      exact hK _ _ hb rfl
    | 42, hop =>
      obtain rfl := Option.some.inj hop
      have gg : a.tmps.getD 48 undef = (.bool true) := hdep 36 _ 48 rfl rfl ⟨⟨36, .guard⟩, by simp, rfl, rfl⟩
      have t39 : a.tmps.getD 51 undef = (.bool Y) := hdep 39 _ 51 rfl rfl ⟨⟨39, .data⟩, by simp, rfl, rfl⟩
      have t41 : a.tmps.getD 53 undef = (.bool Y) := hdep 41 _ 53 rfl rfl ⟨⟨41, .data⟩, by simp, rfl, rfl⟩
      exact .want rfl rfl (by rw [hsz]; simp) gg (wp_val (w' := wa) (v := (.bool true)) (by simp only [execOp, Act.eval]; rw [show a.tmps.getD 51 undef = _ from t39, show a.tmps.getD 53 undef = _ from t41]; simp only [Sem.run_bind, egbb, eqbb, Result.andThen_ok, Sem.run_pure]) (hK _ _ (Below.refl _ _) rfl))
    | 43, hop =>
      obtain rfl := Option.some.inj hop
      have t36 : a.tmps.getD 48 undef = (.bool true) := hdep 36 _ 48 rfl rfl ⟨⟨36, .data⟩, by simp, rfl, rfl⟩
      have t42 : a.tmps.getD 54 undef = (.bool true) := hdep 42 _ 54 rfl rfl ⟨⟨42, .data⟩, by simp, rfl, rfl⟩
      exact .plain rfl (wp_val (w' := wa) (v := (.bool true)) (by simp only [execOp, Act.eval]; rw [show a.tmps.getD 48 undef = _ from t36, show a.tmps.getD 54 undef = _ from t42]; rfl) (hK _ _ (Below.refl _ _) rfl))
    | 44, _ => exact absurd rfl hj
    | _ + 45, hop => exact absurd hop (by simp)
  · intro a wa hwa hdf hsz hsl hrr K hK
    have t43 : a.tmps.getD 55 undef = (.bool true) := hrr 43 _ 55 rfl (by decide) rfl
    refine .plain rfl (wp_val (w' := wa) (v := (.bool true)) (by simp only [execOp, Act.eval]; rw [show a.tmps.getD 55 undef = _ from t43]; rfl) ?_)
    refine hK _ wa ?_
    have hact := act_puts hdf hsz hsl
    clear hrr hsl hdf hsz hK t43
    simp only [List.filterMap_cons, List.filterMap_nil, List.foldl_cons, List.foldl_nil] at hact
    rw [hact]
    generalize a.tmps.getD 12 undef = y12
    generalize a.tmps.getD 13 undef = y13
    generalize a.tmps.getD 14 undef = y14
    generalize a.tmps.getD 15 undef = y15
    generalize a.tmps.getD 16 undef = y16
    generalize a.tmps.getD 17 undef = y17
    generalize a.tmps.getD 18 undef = y18
    generalize a.tmps.getD 19 undef = y19
    generalize a.tmps.getD 20 undef = y20
    generalize a.tmps.getD 21 undef = y21
    generalize a.tmps.getD 22 undef = y22
    generalize a.tmps.getD 23 undef = y23
    generalize a.tmps.getD 24 undef = y24
    generalize a.tmps.getD 25 undef = y25
    generalize a.tmps.getD 26 undef = y26
    generalize a.tmps.getD 27 undef = y27
    generalize a.tmps.getD 28 undef = y28
    generalize a.tmps.getD 29 undef = y29
    generalize a.tmps.getD 30 undef = y30
    generalize a.tmps.getD 31 undef = y31
    generalize a.tmps.getD 32 undef = y32
    generalize a.tmps.getD 33 undef = y33
    generalize a.tmps.getD 34 undef = y34
    generalize a.tmps.getD 35 undef = y35
    generalize a.tmps.getD 36 undef = y36
    generalize a.tmps.getD 37 undef = y37
    generalize a.tmps.getD 38 undef = y38
    generalize a.tmps.getD 39 undef = y39
    generalize a.tmps.getD 40 undef = y40
    generalize a.tmps.getD 41 undef = y41
    generalize a.tmps.getD 42 undef = y42
    generalize a.tmps.getD 43 undef = y43
    generalize a.tmps.getD 44 undef = y44
    generalize a.tmps.getD 45 undef = y45
    generalize a.tmps.getD 46 undef = y46
    generalize a.tmps.getD 47 undef = y47
    generalize a.tmps.getD 48 undef = y48
    generalize a.tmps.getD 49 undef = y49
    generalize a.tmps.getD 50 undef = y50
    generalize a.tmps.getD 51 undef = y51
    generalize a.tmps.getD 52 undef = y52
    generalize a.tmps.getD 53 undef = y53
    generalize a.tmps.getD 54 undef = y54
    generalize a.tmps.getD 55 undef = y55
    clear hact
    simp only [Act.put, List.setIfInBounds_toArray, List.set_cons_succ, List.set_cons_zero]
    have hfin := hide1 (B1.out.trans (hwa.mono B1.out.size))
    clear hwa hd hk hi1 hi2 hi3 hi4 hi5 hdk hdr hkk hkr hid hnr hadd
    go_wp2
    go_ret
    exact ⟨rfl, hfin.out⟩
end Go.Proofs.YtlmbahedgjfjgaaGreatDoor

namespace Go.Proofs.YtlmbahedgjfjgaaGreatDoor
open Go.ChangeShapes Go.WideShapes Go.ChangeAt Go.RowKit

def laidJ : List (String × DataW Unit) := [("math/bits.deBruijn32tab", Rows.laid_math_bits_deBruijn32tab), ("math/bits.deBruijn64tab", Rows.laid_math_bits_deBruijn64tab), ("cachet/sum.cubes", Rows.laid_cachet_sum_cubes), ("cachet/sum.squares", Rows.laid_cachet_sum_squares), ("internal/strconv.uint64pow10", Rows.laid_internal_strconv_uint64pow10), ("unicode/utf8.acceptRanges", Rows.laid_unicode_utf8_acceptRanges), ("strconv.ErrRange", Rows.laid_strconv_ErrRange), ("strconv.ErrSyntax", Rows.laid_strconv_ErrSyntax), ("unicode/utf8.first", Rows.laid_unicode_utf8_first)]
theorem laid_metJ (os : Os) (args : Array Value) : laidMetH Tryz.prog laidJ ((World.laidAll Tryz.prog os laidJ).forCall (fun _ _ => 0) ⟨#[], args, []⟩).memory := by
  rw [MakeChecks.laidMetH_plain _ _ _ (by kernel_rfl)]
  exact laidMet_laidAll _ (by kernel_rfl) (by kernel_rfl)
theorem of_laidJ {W : World} (_ : laidMetH Tryz.prog laidJ W) : True ∧ True := ⟨trivial, trivial⟩
section
variable {H : Type} {enc : TypeId × Value → H} {P : Program} {w : World} {base : Nat} {spare : Nat → Bool} {held : Bool}
theorem open_bA {r : Reach} {b0 : Nat} {t e : TypeId} {v : Value} {d : DataW H} {p : List MemPlace} (ht : P.underlying t = some (.array 32 e)) (he : P.underlying e = some (.int .u8)) (hce : P.cellsOf e = 1) (hct : P.cellsOf t = 32)
    (hv : Value.okWide P w r b0 t v) (h : DataW.Trod enc P w base spare held t v d p) : ∃ D : List Int, Byt D ∧ D.length = 32 ∧ v = .agg (bA D) := by
  unfold Value.okWide at hv
  rw [ht] at hv
  obtain ⟨cs, rfl, -, -⟩ := hv
  obtain ⟨fuel, h⟩ := h
  obtain ⟨xs, m, rfl, -, hl, hx, hi⟩ := DataW.trod_array ht h
  have hcell : ∀ i, i < 32 → ∃ n : Int, 0 ≤ n ∧ n < 256 ∧ cs[i]? = some (.int .u8 n) := by
    intro i hi32
    have h1 := hi i hi32
    have h2 : xs[i]? = some xs[i] := by simp [hx, hi32]
    rw [h2, hce, Nat.mul_one] at h1
    obtain ⟨n, hc, -, hw⟩ := DataW.trod_int he h1
    have h3 : cs[i]? = some (.int .u8 n) := by
      have := congrArg (·[0]?) hc
      simpa [List.getElem?_take, List.getElem?_drop, Value.cells] using this
    simp only [Lit.wf, Bool.and_eq_true, decide_eq_true_eq] at hw
    have e1 : IntKind.u8.min = 0 := rfl
    have e2 : IntKind.u8.max = 255 := rfl
    exact ⟨n, by omega, by omega, h3⟩
  have hsz : cs.size = 32 := by
    have h7 : cs.toList.length = P.cellsOf t := by simpa [Value.cells] using hl
    simp at h7; omega
  refine ⟨cs.toList.map intOf, ?_, by simp [hsz], ?_⟩
  · intro z hz
    obtain ⟨x, hxm, rfl⟩ := List.mem_map.1 hz
    obtain ⟨j, hj, rfl⟩ := List.mem_iff_getElem.1 hxm
    obtain ⟨n, h1, h2, h3⟩ := hcell j (by simpa [hsz] using hj)
    have : cs.toList[j] = .int .u8 n := by
      have h4 : cs.toList[j]? = some (.int .u8 n) := by simpa using h3
      rw [List.getElem?_eq_getElem hj] at h4
      exact Option.some.inj h4
    rw [this]
    exact ⟨h1, h2⟩
  · congr 1
    apply Array.ext'
    unfold bA
    rw [List.map_map]
    refine List.ext_getElem? fun j => ?_
    simp only [List.getElem?_map]
    rcases Nat.lt_or_ge j 32 with h | h
    · obtain ⟨n, _, _, h3⟩ := hcell j h
      have h4 : cs.toList[j]? = some (.int .u8 n) := by simpa using h3
      rw [h4]; rfl
    · rw [List.getElem?_eq_none (by simp [hsz]; exact h)]; rfl
end
end Go.Proofs.YtlmbahedgjfjgaaGreatDoor

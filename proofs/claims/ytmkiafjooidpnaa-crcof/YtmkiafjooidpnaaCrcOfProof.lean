/- What is proved: the Go function cachetlaw02.CrcOf of this program answers true for every two texts, and leaves its arguments as they were: crc.Of of two parts is the document's check sum of the whole, crc.More goes on to it from the first part's, and what is handed in stays. No condition. -/
import Derived.Test.YtmkiafjooidpnaaCopy
import Derived.WalkKit
import Derived.ProofKit
import Derived.OpenShut
import Derived.ShutString
import Derived.ChangeOld
import Derived.Below
namespace Go.Proofs.Ytmkiafjooidpnaa.crcOf
open Go.ChangeShapes Go.WideShapes Go.ChangeAt Go.RowKit
open Go.ChangeMaps (open_string shut_string)
set_option linter.unusedVariables false

theorem own : ownKnob Try.prog.godebug = none := by kernel_rfl
theorem laidOut : laidOutB Try.prog = true := by kernel_rfl

/-! ### STEP 1: THE WALK: the Go text returns true, AND WRITES NOTHING THAT WAS THERE: 'Below w.heap.size w w'' (Derived/Below.lean: '.refl', '.alloc', '.drew', '.setCell' at a new block, '.trans'). Open each 'IsRow' by 'rcases' AHEAD of 'go_enter'; part every test ahead of the walk. -/
set_option maxHeartbeats 1000000 in
theorem walk (a0 : Option Addr) (len0 cap0 : Nat) (z0 : List Int) (a1 : Option Addr) (len1 cap1 : Nat) (z1 : List Int) (w : World) (w0 : IsRow .u8 w a0 len0 cap0 z0) (w1 : IsRow .u8 w a1 len1 cap1 z1) :
    Calls Try.prog 3 #[.slice a0 len0 cap0, .slice a1 len1 cap1] w fun e w' => e = .returned (.bool true) ∧ Below w.heap.size w w' := by
  obtain ⟨hb0, hm0⟩ := bs_of_row w0
  obtain ⟨hb1, hm1⟩ := bs_of_row w1
  generalize z0.take len0 = za at hb0
  generalize z1.take len1 = zb at hb1
  unfold maxLen at hm0 hm1
  clear w0 w1
  by_cases h0 : 5000 < len0
  · go_enter Try.func3, Try.ntmps3
    go_wp2_with fail
    refine (alive_any _).mono ?_
    rintro e wa ⟨rfl, hla⟩
    go_wp2_with fail
    go_ret
    exact ⟨rfl, hla⟩
  by_cases h1 : 5000 < len1
  · go_enter Try.func3, Try.ntmps3
    go_wp2_with fail
    refine (alive_any _).mono ?_
    rintro e wa ⟨rfl, hla⟩
    go_wp2_with fail
    go_ret
    exact ⟨rfl, hla⟩
  have E1 : Hid (crcSum [za, zb].flatten = crcSum (za ++ zb)) := by unfold Hid; simp
  have E2 : Hid (4294967295 - crcRun (4294967295 - crcSum za) zb = crcSum (za ++ zb)) := more_sum za zb hb0.2.1
  go_enter Try.func3, Try.ntmps3
  go_wp2_with fail
  refine (alive_any _).mono ?_
  rintro e wa ⟨rfl, hla⟩
  go_wp2_with fail
  refine (copy_any _ _ _ zb _ (hb1.later hla) (by omega)).mono ?_
  rintro e wb ⟨g, capg, rfl, hk, hlb⟩
  have hB := hla.trans (hlb.mono hla.size)
  clear hla hlb
  have hbA := hb0.later hB
  have hbB := hb1.later hB
  have ho := ownsRow_empty wb wb.heap.size (Nat.le_refl _)
  have hBo := below_one wb (.cells #[] 5)
  have hbA1 := hbA.later hBo
  go_wp2_with (first
    | (at_builtin; refine wpList_append_bs rfl (.tmp 19) (.tmp 20) rfl wb.heap.size (.slice (some ⟨wb.heap.size, 0, none⟩) 0 0) 0 [] rfl ho a0 len0 cap0 za rfl hbA1 (by omega) hBo.size ?_; intro v2 w2 hown2 hg2; have hC := hBo.grown hg2 hBo.size (fun k e => (ho.lt k e).1); have hbB2 := hbB.later hC; clear hg2)
    | (at_builtin; refine wpList_append_bs rfl (.tmp 21) (.tmp 22) rfl wb.heap.size v2 (0 + len0) ([] ++ byteVals za) rfl hown2 a1 len1 cap1 zb rfl hbB2 (by omega) hC.size ?_; intro v3 w3 hown3 hg3; have hD := hC.grown hg3 hC.size (fun k e => (hown2.lt k e).1); clear hg3))
  have hex : ∃ a3 cap3, v3 = .slice a3 (len0 + len1) cap3 ∧ Bs w3 a3 (len0 + len1) (za ++ zb) := by
    have e : [] ++ byteVals za ++ byteVals zb = byteVals (za ++ zb) := by simp [byteVals]
    rw [e, Nat.zero_add] at hown3
    obtain ⟨a3, cap3, hv, hbs, _, _⟩ := bs_owned hown3 (by intro z hz; rcases List.mem_append.1 hz with h | h; exact hb0.2.1 z h; exact hb1.2.1 z h)
    exact ⟨a3, cap3, hv, hbs⟩
  obtain ⟨a3, cap3, hv3, hbs3⟩ := hex
  rw [hv3]
  have hk3 := hk.later hD
  have hD3 := hB.trans (hD.mono hB.size)
  have hA3 := hb0.later hD3
  have hB3 := hb1.later hD3
  clear hown3 hown2 hbB2 hC hbA1 hBo ho hbB hbA hk hB hD
  refine (refOf_any _ _ _ (za ++ zb) _ hbs3 (by omega)).mono ?_
  rintro e w4 ⟨rfl, rfl⟩
  clear hbs3 hv3
  go_wp2_with fail
  refine (of_any _ 2 2 [za, zb] _ (parts_new2 w4 hA3 (by unfold maxLen; omega) hk3.bs (by unfold maxLen; omega)) (by decide)).mono ?_
  rw [E1.out]
  rintro e w5 ⟨rfl, hl5⟩
  have hE0 := (below_one w4 (.cells #[.slice a0 len0 cap0, .slice (some ⟨g, 0, none⟩) len1 capg] 22)).trans (hl5.mono (by simp))
  have hE := hD3.trans (hE0.mono hD3.size)
  have hA5 := hA3.later hE0
  have hB5 := hB3.later hE0
  have hk5 := hk3.later hE0
  clear hl5 hE0 hD3 hA3 hB3 hk3
  go_wp2_with fail
  refine (refOf_any _ _ _ za _ hA5 (by omega)).mono ?_
  rintro e w6 ⟨rfl, rfl⟩
  go_wp2_with fail
  refine (more_any (crcSum za) (crcSum_lt za) _ _ _ zb _ hk5.bs (by unfold maxLen; omega)).mono ?_
  rw [E2.out]
  rintro e w7 ⟨rfl, hl7⟩
  have hk7 := hk5.later hl7
  have hB7 := hB5.later hl7
  have hF := hE.trans (hl7.mono hE.size)
  clear hk5 hB5 hl7 hE hA5
  go_wp2_with fail
  refine (kept_any _ _ _ _ _ zb _ hk7 hB7).mono ?_
  rintro e w8 ⟨rfl, rfl⟩
  go_wp2_with fail
  go_ret
  exact ⟨by simp, hF⟩

/-! ### THE ROW's STEP: WRITTEN OUT: LEAVE IT -/
set_option maxRecDepth 100000 in
theorem lifted (os : Os) (started : os.Started) (H : Type) (enc : TypeId × Value → H) :
    ReturnsInHanded {} Try.checked os 3 .any (Rows.crcOfSpec.pre6 enc Try.prog Try.f3 Rows.crcOfRow.domain false) (Rows.crcOfSpec.post enc Try.prog Try.f3 false true false false) := by
  refine returnsInHanded_of_change (C := Try.checked) own started (by kernel_rfl) Try.func3
    (ChangeSpec.witness6 (enc := enc) (C := Try.checked) false ⟨#[], #[.slice none 0 0, .slice none 0 0], []⟩ 8 (by kernel_rfl) (by kernel_rfl) (by kernel_rfl) (by kernel_rfl)) ?_
  intro W base args ds gs before hval0 hW hcnd _
  have hval : ∀ (j : Nat) t v, Try.f3.params[j]? = some t → args[j]? = some v → Value.okWide Try.prog W .any base t v := hval0
  have hW' := hW
  obtain ⟨p, q, hA0, hV, rfl, hfz, hnd⟩ := hW
  have hA : DataW.TrodAll enc Try.prog W 0 (fun _ => true) true Try.f3.params.toList args.toList ds p := hA0
  rw [Try.params3] at hA hval
  obtain ⟨v0, vs0, d0, ds0, p0, q0, hargs, rfl, rfl, h0, r0⟩ := trodAll_cons hA
  obtain ⟨v1, vs1, d1, ds1, p1, q1, rfl, rfl, rfl, h1, r1⟩ := trodAll_cons r0
  obtain ⟨rfl, rfl, rfl⟩ := trodAll_nil r1
  obtain rfl : args = #[v0, v1] := by cases args; simp_all
  obtain ⟨rfl, rfl⟩ := trodVars_none hV
  obtain ⟨a0, len0, cap0, rfl⟩ := okWide_slice Try.underlying22 (hval 0 22 v0 rfl rfl)
  have k0 := h0
  have lt0 : ∀ x ∈ p0, x.block < W.heap.size := by obtain ⟨m, hm⟩ := k0; exact DataW.trod_lt m _ _ _ hm
  obtain ⟨z0, w0⟩ : ∃ zs, IsRow .u8 W a0 len0 cap0 zs := by
    obtain ⟨fuel, hf⟩ := h0
    rcases open_ints Try.underlying22 Try.underlying5 (by kernel_rfl) hf with ⟨hcs, _⟩ | ⟨x, l, c, zs, hcs, _, hl, hm, hz, _, hcell, hwz⟩
    · simp [Value.cells] at hcs
      obtain ⟨rfl, rfl, rfl⟩ := hcs
      exact ⟨[], .inl ⟨rfl, rfl, rfl, rfl⟩⟩
    · simp [Value.cells] at hcs
      obtain ⟨rfl, rfl, rfl⟩ := hcs
      exact ⟨zs, .inr ⟨_, rfl, hl, hm, by simpa using hz, hcell, hwz⟩⟩
  obtain ⟨a1, len1, cap1, rfl⟩ := okWide_slice Try.underlying22 (hval 1 22 v1 rfl rfl)
  have k1 := h1
  have lt1 : ∀ x ∈ p1, x.block < W.heap.size := by obtain ⟨m, hm⟩ := k1; exact DataW.trod_lt m _ _ _ hm
  obtain ⟨z1, w1⟩ : ∃ zs, IsRow .u8 W a1 len1 cap1 zs := by
    obtain ⟨fuel, hf⟩ := h1
    rcases open_ints Try.underlying22 Try.underlying5 (by kernel_rfl) hf with ⟨hcs, _⟩ | ⟨x, l, c, zs, hcs, _, hl, hm, hz, _, hcell, hwz⟩
    · simp [Value.cells] at hcs
      obtain ⟨rfl, rfl, rfl⟩ := hcs
      exact ⟨[], .inl ⟨rfl, rfl, rfl, rfl⟩⟩
    · simp [Value.cells] at hcs
      obtain ⟨rfl, rfl, rfl⟩ := hcs
      exact ⟨zs, .inr ⟨_, rfl, hl, hm, by simpa using hz, hcell, hwz⟩⟩
  clear hA0 hval0
  refine (walk a0 len0 cap0 z0 a1 len1 cap1 z1 W w0 w1).mono fun e W' ⟨he, bel⟩ => ?_
  subst he
  exact ⟨_, rfl, _, _, _, [], _, [], hW', trodAll_mk1 (shut_bool Try.underlying4 _), (trodAll_cons_mk (Below.trod laidOut (by kernel_rfl) (of_decide_eq_true (by kernel_rfl)) k0 bel lt0) (trodAll_cons_mk (Below.trod laidOut (by kernel_rfl) (of_decide_eq_true (by kernel_rfl)) k1 bel lt1) trodAll_mk0)), rfl, bel.frame _, fun h => by cases h⟩

theorem over : Rows.crcOfRow.holds Try.pinned (OpenSpec.ofChange Rows.crcOfSpec) :=
  OpenClaim.holds_of_wide 3 Try.f3 rfl rfl rfl rfl rfl rfl rfl ⟨rfl, rfl, rfl, rfl, rfl⟩ rfl rfl rfl rfl rfl (by kernel_rfl) Try.func3 (by kernel_rfl)
    (of_decide_eq_true (by kernel_rfl)) (by unfold Func.isWrapper; first | (rw [if_pos (by decide +kernel)]; kernel_rfl) | (rw [if_neg (by decide +kernel)]; exact ⟨rfl, rfl⟩))
    (fun os started H enc _ => lifted os started H enc)

/-- ████ THE STATEMENT ████ -/
theorem proved : Rows.CrcOfSaid := over
#print axioms proved
end Go.Proofs.Ytmkiafjooidpnaa.crcOf

namespace Go.Proofs.Ytmkiafjooidpnaa
theorem crcOf_holds : Rows.CrcOfSaid := crcOf.proved
#print axioms crcOf_holds
end Go.Proofs.Ytmkiafjooidpnaa

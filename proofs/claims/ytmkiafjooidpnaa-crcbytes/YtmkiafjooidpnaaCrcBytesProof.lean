/- What is proved: the Go function cachetlaw02.CrcBytes of this program answers true for every sum and every bytes, and leaves its arguments as they were: crc.Bytes are the sum's four bytes, the lowest first, and crc.Take brings just these back and refuses every other length. No condition. -/
import Derived.Test.YtmkiafjooidpnaaTake
import Derived.WalkKit
import Derived.ProofKit
import Derived.OpenShut
import Derived.ShutString
import Derived.ChangeOld
import Derived.Below
namespace Go.Proofs.Ytmkiafjooidpnaa.crcBytes
open Go.ChangeShapes Go.WideShapes Go.ChangeAt Go.RowKit
open Go.ChangeMaps (open_string shut_string)
set_option linter.unusedVariables false

theorem own : ownKnob Try.prog.godebug = none := by kernel_rfl
theorem laidOut : laidOutB Try.prog = true := by kernel_rfl

theorem u32_nat {x : Int} (h : (Lit.int .u32 x).wf = true) : ∃ s : Nat, x = (s : Int) ∧ s < 4294967296 := by
  simp only [Lit.wf, Bool.and_eq_true, decide_eq_true_eq] at h
  have e1 : IntKind.u32.min = 0 := rfl
  have e2 : IntKind.u32.max = 4294967295 := rfl
  exact ⟨x.toNat, by omega, by omega⟩

/-! ### STEP 1: THE WALK: the Go text returns true, AND WRITES NOTHING THAT WAS THERE: 'Below w.heap.size w w'' (Derived/Below.lean: '.refl', '.alloc', '.drew', '.setCell' at a new block, '.trans'). Open each 'IsRow' by 'rcases' AHEAD of 'go_enter'; part every test ahead of the walk. -/
set_option maxHeartbeats 1000000 in
theorem walk (a0 : Int) (a1 : Option Addr) (len1 cap1 : Nat) (z1 : List Int) (w : World) (w0 : (Lit.int .u32 a0).wf = true) (w1 : IsRow .u8 w a1 len1 cap1 z1) :
    Calls Try.prog 6 #[.int .u32 a0, .slice a1 len1 cap1] w fun e w' => e = .returned (.bool true) ∧ Below w.heap.size w w' := by
  obtain ⟨hb1, hm1⟩ := bs_of_row w1
  obtain ⟨s, rfl, hs⟩ := u32_nat w0
  generalize z1.take len1 = zs at hb1
  have hm2 := hm1
  unfold maxLen at hm2
  clear w0 w1
  by_cases hbig : 1000 < len1
  · go_enter Try.func6, Try.ntmps6
    go_wp2_with fail
    refine (bytes_any s hs _).mono ?_
    rintro e wa ⟨rfl, hba, hla⟩
    go_wp2_with fail
    refine (alive_any _).mono ?_
    rintro e wb ⟨rfl, hlb⟩
    go_wp2_with fail
    refine (alive_any _).mono ?_
    rintro e wc ⟨rfl, hlc⟩
    go_wp2_with fail
    go_ret
    exact ⟨rfl, hla.trans ((hlb.mono hla.size).trans (hlc.mono (Nat.le_trans hla.size hlb.size)))⟩
  · go_enter Try.func6, Try.ntmps6
    go_wp2_with fail
    refine (bytes_any s hs _).mono ?_
    rintro e wa ⟨rfl, hba, hla⟩
    go_wp2_with fail
    refine (alive_any _).mono ?_
    rintro e wb ⟨rfl, hlb⟩
    have hba1 := hba.later hlb
    have hlb1 := hla.trans (hlb.mono hla.size)
    clear hba hla hlb
    go_wp2_with fail
    refine (refBytes_any s hs _).mono ?_
    rintro e wc ⟨a2, cap2, rfl, hbc, hlc⟩
    have hba2 := hba1.later hlc
    have hlc1 := hlb1.trans (hlc.mono hlb1.size)
    clear hba1 hlb1 hlc
    go_wp2_with fail
    refine (same_any hba2 hbc).mono ?_
    rintro e wd ⟨rfl, rfl⟩
    go_wp2_with fail
    refine (take_four _ hba2).mono ?_
    rw [numOf_bytesOf s hs]
    rintro e we ⟨rfl, hle⟩
    have hle1 := hlc1.trans (hle.mono hlc1.size)
    clear hle hba2 hbc
    by_cases h4 : len1 = 4
    · subst h4
      have hb2 := hb1.later hle1
      go_wp2_with fail
      refine (take_four _ hb2).mono ?_
      rintro e wf ⟨rfl, hlf⟩
      have hb3 := hb2.later hlf
      have hlf1 := hle1.trans (hlf.mono hle1.size)
      have hn := numOf_lt zs hb1.1 hb1.2.1
      have HE : Hid (bytesOf (numOf zs) = zs) := bytesOf_numOf zs hb1.1 hb1.2.1
      clear hle1 hlf hb2
      go_wp2_with fail
      refine (refBytes_any _ hn _).mono ?_
      rw [HE.out]
      rintro e wg ⟨a3, cap3, rfl, hbg, hlg⟩
      have hlg1 := hlf1.trans (hlg.mono hlf1.size)
      have hb4 := hb3.later hlg
      go_wp2_with fail
      refine (same_any hbg hb4).mono ?_
      rintro e wh ⟨rfl, rfl⟩
      go_wp2_with fail
      go_ret
      exact ⟨by simp, hlg1⟩
    · go_wp2_with fail
      refine (take_no _ _ _ h4 _).mono ?_
      rintro e wf ⟨rfl, rfl⟩
      go_wp2_with fail
      go_ret
      exact ⟨by simp, hle1⟩

/-! ### THE ROW's STEP: WRITTEN OUT: LEAVE IT -/
set_option maxRecDepth 100000 in
theorem lifted (os : Os) (started : os.Started) (H : Type) (enc : TypeId × Value → H) :
    ReturnsInHanded {} Try.checked os 6 .any (Rows.crcBytesSpec.pre6 enc Try.prog Try.f6 Rows.crcBytesRow.domain false) (Rows.crcBytesSpec.post enc Try.prog Try.f6 false true false false) := by
  refine returnsInHanded_of_change (C := Try.checked) own started (by kernel_rfl) Try.func6
    (ChangeSpec.witness6 (enc := enc) (C := Try.checked) false ⟨#[], #[.int .u32 0, .slice none 0 0], []⟩ 8 (by kernel_rfl) (by kernel_rfl) (by kernel_rfl) (by kernel_rfl)) ?_
  intro W base args ds gs before hval0 hW hcnd _
  have hval : ∀ (j : Nat) t v, Try.f6.params[j]? = some t → args[j]? = some v → Value.okWide Try.prog W .any base t v := hval0
  have hW' := hW
  obtain ⟨p, q, hA0, hV, rfl, hfz, hnd⟩ := hW
  have hA : DataW.TrodAll enc Try.prog W 0 (fun _ => true) true Try.f6.params.toList args.toList ds p := hA0
  rw [Try.params6] at hA hval
  obtain ⟨v0, vs0, d0, ds0, p0, q0, hargs, rfl, rfl, h0, r0⟩ := trodAll_cons hA
  obtain ⟨v1, vs1, d1, ds1, p1, q1, rfl, rfl, rfl, h1, r1⟩ := trodAll_cons r0
  obtain ⟨rfl, rfl, rfl⟩ := trodAll_nil r1
  obtain rfl : args = #[v0, v1] := by cases args; simp_all
  obtain ⟨rfl, rfl⟩ := trodVars_none hV
  obtain ⟨a0, rfl, rfl, rfl, w0⟩ := open_int Try.underlying25 (hval 0 25 v0 rfl rfl) h0
  obtain ⟨a1, len1, cap1, rfl⟩ := okWide_slice Try.underlying22 (hval 1 22 v1 rfl rfl)
  have k1 := h1
  have lt1 : ∀ x ∈ p1, x.block < W.heap.size := by obtain ⟨m, hm⟩ := k1; exact DataW.trod_lt m _ _ _ hm
  obtain ⟨z1, w1⟩ : ∃ zs, IsRow .u8 W a1 len1 cap1 zs := by
    obtain ⟨fuel, hf⟩ := h1
    rcases open_ints Try.underlying22 Try.underlying5 (by kernel_rfl) hf with ⟨hcs, _⟩ | ⟨x, l, c, zs, hcs, _, hl, hm, hz, _, hcell, hwz⟩
    · simp [Value.cells] at hcs
      obtain ⟨rfl, rfl, rfl⟩ := hcs
      exact ⟨[], .inl ⟨rfl, rfl, rfl, rfl⟩⟩
    · simp [Value.cells] at hcs
      obtain ⟨rfl, rfl, rfl⟩ := hcs
      exact ⟨zs, .inr ⟨_, rfl, hl, hm, by simpa using hz, hcell, hwz⟩⟩
  clear hA0 hval0
  refine (walk a0 a1 len1 cap1 z1 W w0 w1).mono fun e W' ⟨he, bel⟩ => ?_
  subst he
  exact ⟨_, rfl, _, _, _, [], _, [], hW', trodAll_mk1 (shut_bool Try.underlying4 _), (trodAll_cons_mk (shut_int Try.underlying25 w0) (trodAll_cons_mk (Below.trod laidOut (by kernel_rfl) (of_decide_eq_true (by kernel_rfl)) k1 bel lt1) trodAll_mk0)), rfl, bel.frame _, fun h => by cases h⟩

theorem over : Rows.crcBytesRow.holds Try.pinned (OpenSpec.ofChange Rows.crcBytesSpec) :=
  OpenClaim.holds_of_wide 6 Try.f6 rfl rfl rfl rfl rfl rfl rfl ⟨rfl, rfl, rfl, rfl, rfl⟩ rfl rfl rfl rfl rfl (by kernel_rfl) Try.func6 (by kernel_rfl)
    (of_decide_eq_true (by kernel_rfl)) (by unfold Func.isWrapper; first | (rw [if_pos (by decide +kernel)]; kernel_rfl) | (rw [if_neg (by decide +kernel)]; exact ⟨rfl, rfl⟩))
    (fun os started H enc _ => lifted os started H enc)

/-- ████ THE STATEMENT ████ -/
theorem proved : Rows.CrcBytesSaid := over
#print axioms proved
end Go.Proofs.Ytmkiafjooidpnaa.crcBytes

namespace Go.Proofs.Ytmkiafjooidpnaa
theorem crcBytes_holds : Rows.CrcBytesSaid := crcBytes.proved
#print axioms crcBytes_holds
end Go.Proofs.Ytmkiafjooidpnaa

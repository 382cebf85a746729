/- FrameFinds holds: for every input the call returns true, and each argument reads behind it as it read before. -/
import Derived.Test.YtfmjknknckjdiaaRows
import Derived.Test.YtfmjknknckjdiaaG1
namespace Go.Proofs.Ytfmjknknckjdiaa
open Go.ChangeShapes Go.WideShapes Go.ChangeAt Go.RowKit

theorem own_FrameFinds : ownKnob Try.prog.godebug = none := by kernel_rfl
theorem laidOut_FrameFinds : laidOutB Try.prog = true := by kernel_rfl
set_option maxRecDepth 100000 in
theorem lifted_FrameFinds (os : Os) (started : os.Started) (H : Type) (enc : TypeId × Value → H) :
    ReturnsInHanded {} Try.checked os 6 .any (Rows.frameFindsSpec.pre6 enc Try.prog Try.f6 Rows.frameFindsRow.domain false) (Rows.frameFindsSpec.post enc Try.prog Try.f6 false true false false) := by
  refine returnsInHanded_of_change (C := Try.checked) own_FrameFinds started (by kernel_rfl) Try.func6
    (ChangeSpec.witness6 (enc := enc) (C := Try.checked) false ⟨#[], #[.agg #[.slice none 0 0, .slice none 0 0, .slice none 0 0, .int .i64 0, .int .u8 0]], []⟩ 8 (by kernel_rfl) (by kernel_rfl) (by kernel_rfl) (by kernel_rfl)) ?_
  intro W base args ds gs before hval0 hW hcnd _
  have hval : ∀ (j : Nat) t v, Try.f6.params[j]? = some t → args[j]? = some v → Value.okWide Try.prog W .any base t v := hval0
  have hW' := hW
  obtain ⟨p, q, hA0, hV, rfl, hfz, hnd⟩ := hW
  have hA : DataW.TrodAll enc Try.prog W 0 (fun _ => true) true Try.f6.params.toList args.toList ds p := hA0
  rw [Try.params6] at hA hval
  obtain ⟨v0, vs0, d0, ds0, p0, q0, hargs, rfl, rfl, h0, r0⟩ := trodAll_cons hA
  obtain ⟨rfl, rfl, rfl⟩ := trodAll_nil r0
  obtain rfl : args = #[v0] := by cases args; simp_all
  obtain ⟨rfl, rfl⟩ := trodVars_none hV
  obtain ⟨cs, rfl, hcs⟩ := okWide_struct Try.underlying50 (hval 0 50 v0 rfl rfl)
  have k0 := h0
  have lt0 : ∀ x ∈ p0, x.block < W.heap.size := by obtain ⟨m, hm⟩ := k0; exact DataW.trod_lt m _ _ _ hm
  have c5 : Try.prog.cellsOf 50 = 5 := by kernel_rfl
  rw [c5] at hcs
  obtain ⟨aa, la, ca, za, ab, lb, cb, zb, ac, lc, cc, zc, at_, v, e, hv, ha, hb, hc⟩ : ∃ aa la ca za ab lb cb zb ac lc cc zc at_ v, cs.toList = [.slice aa la ca, .slice ab lb cb, .slice ac lc cc, .int .i64 at_, .int .u8 ((v : Nat) : Int)] ∧ v < 256 ∧ Bs W aa la za ∧ Bs W ab lb zb ∧ Bs W ac lc zc := by
    obtain ⟨fuel, hf⟩ := h0
    exact spoil_in (by simpa using hcs) hf
  obtain rfl : cs = #[.slice aa la ca, .slice ab lb cb, .slice ac lc cc, .int .i64 at_, .int .u8 ((v : Nat) : Int)] := by
    apply Array.ext'
    simpa using e
  clear hA0 hval0
  refine (finds_walk aa la ca za ab lb cb zb ac lc cc zc at_ v hv W ha hb hc).mono fun e W' ⟨he, bel⟩ => ?_
  subst he
  exact ⟨_, rfl, _, _, _, [], _, [], hW', trodAll_mk1 (shut_bool Try.underlying4 _), (trodAll_cons_mk (Below.trod laidOut_FrameFinds (by kernel_rfl) (of_decide_eq_true (by kernel_rfl)) k0 bel lt0) trodAll_mk0), rfl, bel.frame _, fun h => by cases h⟩
theorem over_FrameFinds : Rows.frameFindsRow.holds Try.pinned (OpenSpec.ofChange Rows.frameFindsSpec) :=
  OpenClaim.holds_of_wide 6 Try.f6 rfl rfl rfl rfl rfl rfl rfl ⟨rfl, rfl, rfl, rfl, rfl⟩ rfl rfl rfl rfl rfl (by kernel_rfl) Try.func6 (by kernel_rfl)
    (of_decide_eq_true (by kernel_rfl)) (by unfold Func.isWrapper; first | (rw [if_pos (by decide +kernel)]; kernel_rfl) | (rw [if_neg (by decide +kernel)]; exact ⟨rfl, rfl⟩))
    (fun os started H enc _ => lifted_FrameFinds os started H enc)

theorem frameFinds_holds : Rows.FrameFindsSaid := over_FrameFinds
end Go.Proofs.Ytfmjknknckjdiaa

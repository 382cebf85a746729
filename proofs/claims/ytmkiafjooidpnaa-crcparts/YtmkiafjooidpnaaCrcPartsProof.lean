/- What is proved: the Go function cachetlaw02.CrcParts of this program answers true for every list of parts, and leaves it as it was: crc.Of of all parts, crc.Of of the text that they make together and crc.More from part to part are one check sum. No condition. -/
import Derived.Test.YtmkiafjooidpnaaCopy
import Derived.WalkKit
import Derived.ProofKit
import Derived.OpenShut
import Derived.ShutString
import Derived.ChangeOld
import Derived.Below
import Derived.Deep.Matrix
namespace Go.Proofs.Ytmkiafjooidpnaa.crcParts
open Go.ChangeShapes Go.WideShapes Go.ChangeAt Go.RowKit
open Go.ChangeMaps (open_string shut_string)
set_option linter.unusedVariables false

theorem own : ownKnob Try.prog.godebug = none := by kernel_rfl
theorem laidOut : laidOutB Try.prog = true := by kernel_rfl

theorem parts_of_rows {W : World} {x : Addr} {l c : Nat} {A : Nat → Option Addr} {L C : Nat → Nat} {Z : Nat → List Int} (hl : l ≤ c) (hm : c ≤ maxLen)
    (hrow : ∀ r, r < c → W.cell? (x.add r) = some (.slice (A r) (L r) (C r)) ∧ L r ≤ C r ∧ C r ≤ maxLen ∧ (Z r).length = C r ∧ (∀ n ∈ Z r, (Lit.int .u8 n).wf = true) ∧ (A r = none → C r = 0) ∧
        ∀ a', A r = some a' → 0 ≤ a'.block ∧ ∀ k, k < C r → W.cell? (a'.add k) = some (.int .u8 ((Z r).getD k 0))) :
    ∃ ps, Parts W (some x) l ps ∧ l ≤ maxLen := by
  refine ⟨(List.range l).map (fun r => (Z r).take (L r)), ⟨by simp, fun hp => ?_⟩, by omega⟩
  obtain ⟨b, off, spot⟩ := x
  have hspot : spot = none := by simpa [Addr.add] using World.cell?_spot (hrow 0 (by omega)).1
  subst hspot
  refine ⟨b, off, rfl, fun i hi => ?_⟩
  obtain ⟨h1, h2, h3, h4, h5, h6, h7⟩ := hrow i (by omega)
  refine ⟨A i, L i, C i, by rw [Addr.add_lit] at h1; exact h1, by omega, ?_⟩
  have hb : Bs W (A i) (L i) ((Z i).take (L i)) := by
    cases hA : A i with
    | none =>
      have hc := h6 hA
      have hL : L i = 0 := by omega
      rw [hL]
      exact ⟨by simp, fun z hz => by simp at hz, fun h => absurd h (by omega)⟩
    | some a' =>
      exact (bs_of_row (cap := C i) (.inr ⟨a', rfl, h2, h3, h4, fun k hk => (h7 a' hA).2 k (by omega), h5⟩)).1
  simpa [List.getD_eq_getElem?_getD, hi] using hb

theorem parts_flat_len (ps : List (List Int)) (k len : Nat) (h : k < ps.length) (hl : (ps.getD k []).length = len) : (ps.take (k + 1)).flatten.length = (ps.take k).flatten.length + len := by
  rw [flat_snoc ps k h, List.length_append, hl]

theorem owns_later {w w' : World} {base : Nat} {v : Value} {n : Nat} {xs : List Value} (h : w.ownsRow base 5 1 v n xs) (hb : Below w.heap.size w w') : w'.ownsRow base 5 1 v n xs :=
  h.kept (row := none) ⟨hb.os, hb.tape, hb.output, hb.size, fun k hk _ => hb.block k hk⟩ (by cases e : v.ownBlock with | none => exact .inl rfl | some k => exact .inr (by simp))

/-! ### STEP 1: THE WALK -/
set_option maxHeartbeats 1000000 in
theorem walk (a0 : Option Addr) (n cap0 : Nat) (ps : List (List Int)) (w : World) (hp : Parts w a0 n ps) (hn : n ≤ maxLen) :
    Calls Try.prog 4 #[.slice a0 n cap0] w fun e w' => e = .returned (.bool true) ∧ Below w.heap.size w w' := by
  have hby := fun k => parts_bytes hp k
  have hn' := hn
  unfold maxLen at hn'
  have h0 : Hid (crcSum (ps.take 0).flatten = 0) := by unfold Hid crcSum; simp [crcRun]
  go_enter Try.func4, Try.ntmps4
  go_wp2_with fail
  refine (alive_any _).mono ?_
  rintro e wa ⟨rfl, hla⟩
  go_wp2_with fail
  have hstart : (wa.alloc (.cells #[] 5)).ownsRow w.heap.size 5 1 (.slice (some ⟨wa.heap.size, 0, none⟩) 0 0) (ps.take 0).flatten.length (byteVals (ps.take 0).flatten) := ownsRow_empty wa w.heap.size hla.size
  have hl0 := hla.alloc hla.size (.cells #[] 5)
  clear hla
  go_loopw [3, 4, 12] (fun v s i wr => ∃ k : Nat, k ≤ n ∧ k ≤ 51 ∧ i = .int .i64 k ∧ s = .int .u32 ((crcSum (ps.take k).flatten : Nat) : Int) ∧ (ps.take k).flatten.length ≤ 1000 * k ∧ wr.ownsRow w.heap.size 5 1 v (ps.take k).flatten.length (byteVals (ps.take k).flatten) ∧ Below w.heap.size w wr)
    (fun _ _ i _ => n - (intOf i).toNat)
  case atStart => exact ⟨0, by omega, by omega, rfl, by rw [h0.out]; rfl, by simp, hstart, hl0⟩
  case round =>
    clear hstart hl0 h0
    obtain ⟨k, hk, hk51, rfl, rfl, hlen, hown, hbel⟩ := hrel
    by_cases hlt : k < n
    · obtain ⟨b, off, rfl, hcell⟩ := hp.2 (by omega)
      obtain ⟨a', len, cap', hck0, hm, hbs0⟩ := hcell k hlt
      have hck := cell_later hbel hck0
      have hbs := hbs0.later hbel
      unfold maxLen at hm
      have Hl : Hid ((ps.take (k + 1)).flatten.length = (ps.take k).flatten.length + len) := parts_flat_len ps k len (by have := hp.1; omega) hbs.1
      have Hf : Hid ((ps.take (k + 1)).flatten = (ps.take k).flatten ++ ps.getD k []) := flat_snoc ps k (by have := hp.1; omega)
      have Hs : Hid (4294967295 - crcRun (4294967295 - crcSum (ps.take k).flatten) (ps.getD k []) = crcSum (ps.take (k + 1)).flatten) := by
        unfold Hid; rw [Hf.out]; exact more_sum _ _ (hby k)
      generalize ps.getD k [] = pk at *
      generalize (ps.take k).flatten = X at *
      generalize hY : (ps.take (k + 1)).flatten = Y at *
      have HY := hide1 hY
      clear hY
      clear hcell hck0
      by_cases h50 : 50 < k
      · go_wp2
        go_ret
        exact ⟨rfl, hbel⟩
      by_cases h1000 : 1000 < len
      · go_wp2
        go_ret
        exact ⟨rfl, hbel⟩
      go_wp2_with (at_builtin; refine wpList_append_bs rfl (.tmp 24) (.tmp 25) rfl w.heap.size _ X.length (byteVals X) rfl hown a' len cap' pk rfl hbs (by omega) hbel.size ?_; intro v2 w2 hown2 hg2; have hb2 := hbel.grown hg2 hbel.size (fun k e => (hown.lt k e).1); have hbs2 := hbs0.later hb2; clear hown hg2)
      refine (more_any (crcSum X) (crcSum_lt X) a' len cap' pk w2 hbs2 (by unfold maxLen; omega)).mono ?_
      rw [Hs.out]
      rintro e w3 ⟨rfl, hl3⟩
      have hown3 := owns_later hown2 hl3
      have hb3 := hb2.trans (hl3.mono hb2.size)
      clear hown2 hl3 hb2 hbs2 hbs hbs0 hbel
      go_wp2_with fail
      go_roundw
      case rel =>
        refine ⟨k + 1, by omega, by omega, by go_num, by rw [HY.out], by rw [HY.out, Hl.out]; omega, ?_, hb3⟩
        rw [HY.out, Hl.out, Hf.out]
        have e : byteVals (X ++ pk) = byteVals X ++ byteVals pk := by simp [byteVals]
        rw [e]; exact hown3
      case measure => simp [intOf]; omega
    · have hkn : k = n := by omega
      have hall : (ps.take k).flatten = ps.flatten := by rw [List.take_of_length_le (by have := hp.1; omega)]
      have hbyA := hby k
      rw [hall] at hown hlen hbyA
      have Hall : Hid (crcSum (ps.take n).flatten = crcSum ps.flatten) := by unfold Hid; rw [← hkn, hall]
      have Hone : Hid (crcSum [ps.flatten].flatten = crcSum ps.flatten) := by unfold Hid; simp
      have hnl : ps.flatten.length ≤ maxLen := by unfold maxLen; omega
      obtain ⟨a3, cap3, hv3, hbs3, _, _⟩ := bs_owned hown hbyA
      subst hv3
      have hp1 := hp.later hbel
      clear hown hlen hall hby hbyA
      have hof := of_any a0 n cap0 ps wr hp1 hn
      generalize ps.flatten = X at *
      go_wp2_with fail
      refine hof.mono ?_
      rintro e w1 ⟨rfl, hl1⟩
      have hbs4 := hbs3.later hl1
      have hb1 := hbel.trans (hl1.mono hbel.size)
      clear hof hbs3 hl1 hbel
      go_wp2_with fail
      refine (of_any _ 1 1 [X] _ (parts_new1 w1 hbs4 hnl) (by decide)).mono ?_
      rw [Hone.out]
      rintro e w2 ⟨rfl, hl2⟩
      have hs2 := (below_one w1 (.cells #[.slice a3 X.length cap3] 22)).trans (hl2.mono (by simp))
      have hbs5 := hbs4.later hs2
      have hb2 := hb1.trans (hs2.mono hb1.size)
      clear hbs4 hl2 hs2 hb1
      go_wp2_with fail
      refine (of_any _ 1 1 [X] _ (parts_new1 w2 hbs5 hnl) (by decide)).mono ?_
      rw [Hone.out]
      rintro e w3 ⟨rfl, hl3⟩
      have hs3 := (below_one w2 (.cells #[.slice a3 X.length cap3] 22)).trans (hl3.mono (by simp))
      have hb3 := hb2.trans (hs3.mono hb2.size)
      clear hbs5 hl3 hs3 hb2
      rw [Hall.out]
      go_wp2_with fail
      go_ret
      exact ⟨by simp, hb3⟩

/-! ### THE ROW's STEP -/
set_option maxRecDepth 100000 in
theorem lifted (os : Os) (started : os.Started) (H : Type) (enc : TypeId × Value → H) :
    ReturnsInHanded {} Try.checked os 4 .any (Rows.crcPartsSpec.pre6 enc Try.prog Try.f4 Rows.crcPartsRow.domain false) (Rows.crcPartsSpec.post enc Try.prog Try.f4 false true false false) := by
  refine returnsInHanded_of_change (C := Try.checked) own started (by kernel_rfl) Try.func4
    (ChangeSpec.witness6 (enc := enc) (C := Try.checked) false ⟨#[], #[.slice none 0 0], []⟩ 8 (by kernel_rfl) (by kernel_rfl) (by kernel_rfl) (by kernel_rfl)) ?_
  intro W base args ds gs before hval0 hW hcnd _
  have hval : ∀ (j : Nat) t v, Try.f4.params[j]? = some t → args[j]? = some v → Value.okWide Try.prog W .any base t v := hval0
  have hW' := hW
  obtain ⟨p, q, hA0, hV, rfl, hfz, hnd⟩ := hW
  have hA : DataW.TrodAll enc Try.prog W 0 (fun _ => true) true Try.f4.params.toList args.toList ds p := hA0
  rw [Try.params4] at hA hval
  obtain ⟨v0, vs0, d0, ds0, p0, q0, hargs, rfl, rfl, h0, r0⟩ := trodAll_cons hA
  obtain ⟨rfl, rfl, rfl⟩ := trodAll_nil r0
  obtain rfl : args = #[v0] := by cases args; simp_all
  obtain ⟨rfl, rfl⟩ := trodVars_none hV
  obtain ⟨a0, len0, cap0, rfl⟩ := okWide_slice Try.underlying30 (hval 0 30 v0 rfl rfl)
  have k0 := h0
  have lt0 : ∀ x ∈ p0, x.block < W.heap.size := by obtain ⟨m, hm⟩ := k0; exact DataW.trod_lt m _ _ _ hm
  obtain ⟨ps, w0, m0⟩ : ∃ ps, Parts W a0 len0 ps ∧ len0 ≤ maxLen := by
    obtain ⟨fuel, hf⟩ := h0
    rcases Deep.open_int_rows Try.underlying30 Try.underlying22 Try.underlying5 (by kernel_rfl) (by kernel_rfl) hf with ⟨hcs, _⟩ | ⟨x, l, c, A, L, C, Z, hcs, _, hl, hm, _, hrow⟩
    · simp [Value.cells] at hcs
      obtain ⟨rfl, rfl, rfl⟩ := hcs
      exact ⟨[], parts_none _ _, Nat.zero_le _⟩
    · simp [Value.cells] at hcs
      obtain ⟨rfl, rfl, rfl⟩ := hcs
      exact parts_of_rows hl hm hrow
  clear hA0 hval0
  refine (walk a0 len0 cap0 ps W w0 m0).mono fun e W' ⟨he, bel⟩ => ?_
  subst he
  exact ⟨_, rfl, _, _, _, [], _, [], hW', trodAll_mk1 (shut_bool Try.underlying4 _), (trodAll_cons_mk (Below.trod laidOut (by kernel_rfl) (of_decide_eq_true (by kernel_rfl)) k0 bel lt0) trodAll_mk0), rfl, bel.frame _, fun h => by cases h⟩

theorem over : Rows.crcPartsRow.holds Try.pinned (OpenSpec.ofChange Rows.crcPartsSpec) :=
  OpenClaim.holds_of_wide 4 Try.f4 rfl rfl rfl rfl rfl rfl rfl ⟨rfl, rfl, rfl, rfl, rfl⟩ rfl rfl rfl rfl rfl (by kernel_rfl) Try.func4 (by kernel_rfl)
    (of_decide_eq_true (by kernel_rfl)) (by unfold Func.isWrapper; first | (rw [if_pos (by decide +kernel)]; kernel_rfl) | (rw [if_neg (by decide +kernel)]; exact ⟨rfl, rfl⟩))
    (fun os started H enc _ => lifted os started H enc)

/-- The statement. -/
theorem proved : Rows.CrcPartsSaid := over
end Go.Proofs.Ytmkiafjooidpnaa.crcParts

namespace Go.Proofs.Ytmkiafjooidpnaa
theorem crcParts_holds : Rows.CrcPartsSaid := crcParts.proved
#print axioms crcParts_holds
end Go.Proofs.Ytmkiafjooidpnaa

/- What is proved: the Go function cachetlaw02.CrcLinear of this program answers true for every three texts, and leaves its arguments as they were: of three texts as long as one another, put together by exclusive or, the check sum is that of the three sums. No condition. -/
import Derived.Test.YtmkiafjooidpnaaCopy
import Derived.Test.YtmkiafjooidpnaaLin
import Derived.Deep.RegionLaw
import Derived.WalkKit
import Derived.ProofKit
import Derived.OpenShut
import Derived.ShutString
import Derived.ChangeOld
import Derived.Below
namespace Go.Proofs.Ytmkiafjooidpnaa.crcLinear
open Go.ChangeShapes Go.WideShapes Go.ChangeAt Go.RowKit
open Go.ChangeMaps (open_string shut_string)
set_option linter.unusedVariables false

theorem own : ownKnob Try.prog.godebug = none := by kernel_rfl
theorem laidOut : laidOutB Try.prog = true := by kernel_rfl

theorem row_cap {k : IntKind} {w : World} {a : Option Addr} {len cap : Nat} {zs : List Int} (h : IsRow k w a len cap zs) : len ≤ cap := by
  rcases h with ⟨_, rfl, rfl, _⟩ | ⟨_, _, h, _⟩
  · exact Nat.le_refl _
  · exact h
theorem row_max {k : IntKind} {w : World} {a : Option Addr} {len cap : Nat} {zs : List Int} (h : IsRow k w a len cap zs) : cap ≤ maxLen := by
  rcases h with ⟨_, rfl, rfl, _⟩ | ⟨_, _, _, h, _⟩
  · exact Nat.zero_le _
  · exact h

theorem owns_drew {w : World} {base : Nat} {v : Value} {n : Nat} {xs : List Value} (h : w.ownsRow base 5 1 v n xs) : w.drew.ownsRow base 5 1 v n xs := h

theorem xor3_byte (x y z : Nat) (hx : x < 256) (hy : y < 256) (hz : z < 256) :
    (0 ≤ bits BinOp.xor IntKind.u8 (bits BinOp.xor IntKind.u8 (x : Int) (y : Int)) (z : Int) ∧ bits BinOp.xor IntKind.u8 (bits BinOp.xor IntKind.u8 (x : Int) (y : Int)) (z : Int) < 256) ∧
    bits BinOp.xor IntKind.u8 (bits BinOp.xor IntKind.u8 (x : Int) (y : Int)) (z : Int) = ((x ^^^ y ^^^ z : Nat) : Int) := by
  have h1 := Nat.xor_lt_two_pow (n := 8) hx hy
  have h2 := Nat.xor_lt_two_pow (n := 8) h1 hz
  have e : bits BinOp.xor IntKind.u8 (bits BinOp.xor IntKind.u8 (x : Int) (y : Int)) (z : Int) = ((x ^^^ y ^^^ z : Nat) : Int) := by
    rw [u8_xor_nat x y hx hy, u8_xor_nat (x ^^^ y) z h1 hz]
  rw [e]
  exact ⟨⟨by omega, by omega⟩, rfl⟩

theorem flat1 (x : List Int) : crcSum [x].flatten = crcSum x := by simp

theorem bs_shorter {w : World} {a : Option Addr} {len : Nat} {zs : List Int} (h : Bs w a len zs) (k : Nat) (hk : k ≤ len) : Bs w a k (zs.take k) := by
  obtain ⟨h1, h2, h3⟩ := h
  refine ⟨by simp; omega, fun z hz => h2 z (List.mem_of_mem_take hz), fun hp => ?_⟩
  obtain ⟨b, off, e, hc⟩ := h3 (by omega)
  refine ⟨b, off, e, fun i hi => ?_⟩
  rw [hc i (by omega)]
  simp [List.getD_eq_getElem?_getD, hi]

theorem getD_byte {l : List Int} (h : ∀ z ∈ l, 0 ≤ z ∧ z < 256) (i : Nat) : (l.getD i 0).toNat < 256 := by
  by_cases hi : i < l.length
  · have := h _ (getD_mem (l := l) (k := i) hi)
    omega
  · rw [List.getD_eq_getElem?_getD, List.getElem?_eq_none (by omega)]; simp

theorem xorRow_bytes {a b c : List Int} (ha : ∀ z ∈ a, 0 ≤ z ∧ z < 256) (hb : ∀ z ∈ b, 0 ≤ z ∧ z < 256) (hc : ∀ z ∈ c, 0 ≤ z ∧ z < 256) (k : Nat) : ∀ z ∈ xorRow a b c k, 0 ≤ z ∧ z < 256 := by
  intro z hz
  unfold xorRow at hz
  obtain ⟨i, _, rfl⟩ := List.mem_map.1 hz
  have := Nat.xor_lt_two_pow (n := 8) (Nat.xor_lt_two_pow (n := 8) (getD_byte ha i) (getD_byte hb i)) (getD_byte hc i)
  omega

theorem linear_sum (a b c : List Int) (k : Nat) (ha : k = a.length) (hb : k ≤ b.length) (hc : k ≤ c.length) (za : ∀ z ∈ a, 0 ≤ z ∧ z < 256) (zb : ∀ z ∈ b, 0 ≤ z ∧ z < 256) (zc : ∀ z ∈ c, 0 ≤ z ∧ z < 256) :
    ((crcSum (xorRow a b c k) : Nat) : Int) = bits BinOp.xor IntKind.u32 (bits BinOp.xor IntKind.u32 ((crcSum a : Nat) : Int) ((crcSum (b.take k) : Nat) : Int)) ((crcSum (c.take k) : Nat) : Int) := by
  have h := crcRun_linear a b c k (by omega) hb hc
  have la := crcRun_lt 4294967295 (a.take k) (by omega) (fun z hz => za z (List.mem_of_mem_take hz))
  have lb := crcRun_lt 4294967295 (b.take k) (by omega) (fun z hz => zb z (List.mem_of_mem_take hz))
  have lc := crcRun_lt 4294967295 (c.take k) (by omega) (fun z hz => zc z (List.mem_of_mem_take hz))
  have n := not_xor3 _ _ _ la lb lc
  rw [← h] at n
  have ea : a.take k = a := List.take_of_length_le (by omega)
  rw [ea] at n
  have e : crcSum (xorRow a b c k) = crcSum a ^^^ crcSum (b.take k) ^^^ crcSum (c.take k) := n
  rw [u32_xor_nat _ _ (crcSum_lt _) (crcSum_lt _), u32_xor_nat _ _ (Nat.xor_lt_two_pow (n := 32) (crcSum_lt _) (crcSum_lt _)) (crcSum_lt _), e]

theorem step_append_bs {ops : Array Oper} {o : Oper} {a : Act} {w : World} {K : Act → World → Prop} {Q : Exit → Act → World → Prop} {E : Prop}
    (hgd : o.guard = none) (s x : Operand) (ho : o.op = .call { callee := .builtin .append, args := #[s, x], argTypes := #[22, 22] }) (base : Nat)
    (v : Value) (n : Nat) (xs : List Value) (hs : a.eval s = v) (hown : w.ownsRow base 5 1 v n xs) (ad : Option Addr) (m c : Nat) (zs : List Int) (hx : a.eval x = .slice ad m c) (hb : Bs w ad m zs)
    (hbytes : n + m ≤ 140737488355328) (hbase : base ≤ w.heap.size)
    (hK : ∀ v' w', w'.ownsRow base 5 1 v' (n + m) (xs ++ byteVals zs) → w.grownBy w' v.ownBlock → K (a.put o.dst v') w') :
    if Region.wanted o (yielded ops a.tmps) = true then Oper.wp Try.prog o a w K Q else E := by
  have hw : Region.wanted o (yielded ops a.tmps) = true := by simp [Region.wanted, hgd]
  rw [if_pos hw]
  obtain ⟨v', w', hr, h2, h3⟩ := run_append_bs w base o.type v n xs hown ad m c zs hb hbytes hbase
  unfold Oper.wp execOp
  simp only [ho, resolve, invoke, builtin, Sem.run_bind, Sem.run_pure, Result.andThen_ok, List.map_toArray, List.map_cons, List.map_nil, hs, hx, hr]
  exact hK v' w' h2 h3

/-! ### STEP 1: THE WALK: the Go text returns true, AND WRITES NOTHING THAT WAS THERE: 'Below w.heap.size w w'' (Derived/Below.lean: '.refl', '.alloc', '.drew', '.setCell' at a new block, '.trans'). Open each 'IsRow' by 'rcases' AHEAD of 'go_enter'; part every test ahead of the walk. -/
set_option maxHeartbeats 1000000 in
theorem walk (a0 : Option Addr) (len0 cap0 : Nat) (z0 : List Int) (a1 : Option Addr) (len1 cap1 : Nat) (z1 : List Int) (a2 : Option Addr) (len2 cap2 : Nat) (z2 : List Int) (w : World) (w0 : IsRow .u8 w a0 len0 cap0 z0) (w1 : IsRow .u8 w a1 len1 cap1 z1) (w2 : IsRow .u8 w a2 len2 cap2 z2) :
    Calls Try.prog 7 #[.slice a0 len0 cap0, .slice a1 len1 cap1, .slice a2 len2 cap2] w fun e w' => e = .returned (.bool true) ∧ Below w.heap.size w w' := by
  obtain ⟨hb0, hm0⟩ := bs_of_row w0
  obtain ⟨hb1, hm1⟩ := bs_of_row w1
  obtain ⟨hb2, hm2⟩ := bs_of_row w2
  have hc1 : len1 ≤ cap1 := row_cap w1
  have hc2 : len2 ≤ cap2 := row_cap w2
  have hC1 : cap1 ≤ maxLen := row_max w1
  have hC2 : cap2 ≤ maxLen := row_max w2
  unfold maxLen at hm0 hm1 hm2 hC1 hC2
  generalize z0.take len0 = za at hb0
  generalize z1.take len1 = zb at hb1
  generalize z2.take len2 = zc at hb2
  clear w0 w1 w2
  by_cases h0 : 2000 < len0
  · go_enter Try.func7, Try.ntmps7
    go_wp2_with fail
    refine (alive_any _).mono ?_
    rintro e wa ⟨rfl, hla⟩
    go_wp2_with fail
    go_ret
    exact ⟨rfl, hla⟩
  by_cases h1 : len1 < len0
  · go_enter Try.func7, Try.ntmps7
    go_wp2_with fail
    refine (alive_any _).mono ?_
    rintro e wa ⟨rfl, hla⟩
    go_wp2_with fail
    go_ret
    exact ⟨rfl, hla⟩
  by_cases h2 : len2 < len0
  · go_enter Try.func7, Try.ntmps7
    go_wp2_with fail
    refine (alive_any _).mono ?_
    rintro e wa ⟨rfl, hla⟩
    go_wp2_with fail
    go_ret
    exact ⟨rfl, hla⟩
  have g1 : (len0 : Int) ≤ (cap1 : Int) := by omega
  have g2 : (len0 : Int) ≤ (cap2 : Int) := by omega
  go_enter Try.func7, Try.ntmps7
  go_wp2_with fail
  refine (alive_any _).mono ?_
  rintro e wa ⟨rfl, hla⟩
  go_wp2_with fail
  go_quiet (fail)
  go_wp2
  have hstart : ((wa.drewN nq).alloc (.cells #[] 5)).ownsRow w.heap.size 5 1 (.slice (some ⟨wa.heap.size, 0, none⟩) 0 0) 0 (byteVals (xorRow za zb zc 0)) := ownsRow_empty (wa.drewN nq) w.heap.size hla.size
  have hl0 : Below w.heap.size w ((wa.drewN nq).alloc (.cells #[] 5)) := (below_drewN hla nq).alloc hla.size _
  clear hla
  go_loopw [7, 39] (fun v i wr => ∃ k : Nat, k ≤ len0 ∧ i = .int .i64 k ∧ wr.ownsRow w.heap.size 5 1 v k (byteVals (xorRow za zb zc k)) ∧ Below w.heap.size w wr)
    (fun _ i _ => len0 - (intOf i).toNat)
  case atStart => exact ⟨0, by omega, rfl, hstart, hl0⟩
  case round =>
    clear hstart hl0
    obtain ⟨k, hk, rfl, hown, hbel⟩ := hrel
    by_cases hlt : k < len0
    · obtain ⟨p0, q0, rfl, hcell0⟩ := hb0.2.2 (by omega)
      obtain ⟨p1, q1, rfl, hcell1⟩ := hb1.2.2 (by omega)
      obtain ⟨p2, q2, rfl, hcell2⟩ := hb2.2.2 (by omega)
      have hx0 := cell_later hbel (hcell0 k (by omega))
      have hx1 := cell_later hbel (hcell1 k (by omega))
      have hx2 := cell_later hbel (hcell2 k (by omega))
      have y0 := hb0.2.1 _ (getD_mem (l := za) (k := k) (by have := hb0.1; omega))
      have y1 := hb1.2.1 _ (getD_mem (l := zb) (k := k) (by have := hb1.1; omega))
      have y2 := hb2.2.1 _ (getD_mem (l := zc) (k := k) (by have := hb2.1; omega))
      have HS := hide1 (xorRow_succ za zb zc k)
      generalize za.getD k 0 = x at *
      generalize zb.getD k 0 = y at *
      generalize zc.getD k 0 = z at *
      obtain ⟨x, rfl⟩ := Int.eq_ofNat_of_zero_le y0.1
      obtain ⟨y, rfl⟩ := Int.eq_ofNat_of_zero_le y1.1
      obtain ⟨z, rfl⟩ := Int.eq_ofNat_of_zero_le y2.1
      have hx3 := xor3_byte x y z (by omega) (by omega) (by omega)
      have HX := hide1 hx3
      clear hcell0 hcell1 hcell2 hx3
      generalize xorRow za zb zc k = X at *
      go_wp2
      go_region_law (refine step_append_bs rfl (.tmp 42) (.tmp 57) rfl w.heap.size _ k (byteVals X) rfl ((owns_drew hown).alloc _) _ 1 1 [_] rfl (bs_one _ _ HX.out.1) (by omega) (by have := hbel.size; simp; omega) ?_; intro v' w' hown' hg')
      all_goals have hb' := below_app hbel.drew (Nat.le_refl _) (owns_drew hown) hg'
      all_goals clear hg' hown
      all_goals go_wp2
      all_goals go_roundw
      all_goals first | (simp [intOf]; omega) | skip
      all_goals
        refine ⟨k + 1, by omega, by go_num, ?_, hb'⟩
        rw [HS.out]
        rw [HX.out.2] at hown'
        have e : byteVals (X ++ [(((x : Int).toNat ^^^ (y : Int).toNat ^^^ (z : Int).toNat : Nat) : Int)]) = byteVals X ++ byteVals [((x ^^^ y ^^^ z : Nat) : Int)] := by simp [byteVals]
        rw [e]; exact hown'
    · obtain rfl : k = len0 := by omega
      have hX := xorRow_bytes hb0.2.1 hb1.2.1 hb2.2.1 k
      have HL := hide1 (linear_sum za zb zc k (by have := hb0.1; omega) (by have := hb1.1; omega) (by have := hb2.1; omega) hb0.2.1 hb1.2.1 hb2.2.1)
      obtain ⟨a3, cap3, hv3, hbs3, _, _⟩ := bs_owned hown hX
      subst hv3
      have hbB := bs_shorter hb1 k (by omega)
      have hbC := bs_shorter hb2 k (by omega)
      have hkm : k ≤ maxLen := by unfold maxLen; omega
      have F0 := hide1 (flat1 (xorRow za zb zc k))
      have F1 := hide1 (flat1 za)
      have F2 := hide1 (flat1 (zb.take k))
      have F3 := hide1 (flat1 (zc.take k))
      clear hown hX hb1 hb2
      generalize xorRow za zb zc k = X at *
      generalize zb.take k = Y at *
      generalize zc.take k = Z at *
      go_wp2_with fail
      refine (of_any _ 1 1 [X] _ (parts_new1 wr hbs3 hkm) (by decide)).mono ?_
      rw [F0.out]
      rintro e w1 ⟨rfl, hl1⟩
      have hs1 := (below_one wr (.cells #[.slice a3 k cap3] 22)).trans (hl1.mono (by simp))
      have hC1 := hbel.trans (hs1.mono hbel.size)
      clear hl1 hs1 hbel hbs3
      go_wp2_with fail
      refine (of_any _ 1 1 [za] _ (parts_new1 w1 (hb0.later hC1) hkm) (by decide)).mono ?_
      rw [F1.out]
      rintro e w2 ⟨rfl, hl2⟩
      have hs2 := (below_one w1 (.cells #[.slice a0 k cap0] 22)).trans (hl2.mono (by simp))
      have hC2 := hC1.trans (hs2.mono hC1.size)
      clear hl2 hs2 hC1
      go_wp2_with fail
      refine (of_any _ 1 1 [Y] _ (parts_new1 w2 (hbB.later hC2) hkm) (by decide)).mono ?_
      rw [F2.out]
      rintro e w3 ⟨rfl, hl3⟩
      have hs3 := (below_one w2 (.cells #[.slice a1 k cap1] 22)).trans (hl3.mono (by simp))
      have hC3 := hC2.trans (hs3.mono hC2.size)
      clear hl3 hs3 hC2
      go_wp2_with fail
      refine (of_any _ 1 1 [Z] _ (parts_new1 w3 (hbC.later hC3) hkm) (by decide)).mono ?_
      rw [F3.out]
      rintro e w4 ⟨rfl, hl4⟩
      have hs4 := (below_one w3 (.cells #[.slice a2 k cap2] 22)).trans (hl4.mono (by simp))
      have hC4 := hC3.trans (hs4.mono hC3.size)
      clear hl4 hs4 hC3
      have hE : (((crcSum X : Nat) : Int) == bits BinOp.xor IntKind.u32 (bits BinOp.xor IntKind.u32 ((crcSum za : Nat) : Int) ((crcSum Y : Nat) : Int)) ((crcSum Z : Nat) : Int)) = true := by
        rw [HL.out]; simp
      go_wp2_with fail
      go_ret
      exact ⟨rfl, hC4⟩

/-! ### THE ROW's STEP: WRITTEN OUT: LEAVE IT -/
set_option maxRecDepth 100000 in
theorem lifted (os : Os) (started : os.Started) (H : Type) (enc : TypeId × Value → H) :
    ReturnsInHanded {} Try.checked os 7 .any (Rows.crcLinearSpec.pre6 enc Try.prog Try.f7 Rows.crcLinearRow.domain false) (Rows.crcLinearSpec.post enc Try.prog Try.f7 false true false false) := by
  refine returnsInHanded_of_change (C := Try.checked) own started (by kernel_rfl) Try.func7
    (ChangeSpec.witness6 (enc := enc) (C := Try.checked) false ⟨#[], #[.slice none 0 0, .slice none 0 0, .slice none 0 0], []⟩ 8 (by kernel_rfl) (by kernel_rfl) (by kernel_rfl) (by kernel_rfl)) ?_
  intro W base args ds gs before hval0 hW hcnd _
  have hval : ∀ (j : Nat) t v, Try.f7.params[j]? = some t → args[j]? = some v → Value.okWide Try.prog W .any base t v := hval0
  have hW' := hW
  obtain ⟨p, q, hA0, hV, rfl, hfz, hnd⟩ := hW
  have hA : DataW.TrodAll enc Try.prog W 0 (fun _ => true) true Try.f7.params.toList args.toList ds p := hA0
  rw [Try.params7] at hA hval
  obtain ⟨v0, vs0, d0, ds0, p0, q0, hargs, rfl, rfl, h0, r0⟩ := trodAll_cons hA
  obtain ⟨v1, vs1, d1, ds1, p1, q1, rfl, rfl, rfl, h1, r1⟩ := trodAll_cons r0
  obtain ⟨v2, vs2, d2, ds2, p2, q2, rfl, rfl, rfl, h2, r2⟩ := trodAll_cons r1
  obtain ⟨rfl, rfl, rfl⟩ := trodAll_nil r2
  obtain rfl : args = #[v0, v1, v2] := by cases args; simp_all
  obtain ⟨rfl, rfl⟩ := trodVars_none hV
  obtain ⟨a0, len0, cap0, rfl⟩ := okWide_slice Try.underlying22 (hval 0 22 v0 rfl rfl)
  have k0 := h0
  have lt0 : ∀ x ∈ p0, x.block < W.heap.size := by obtain ⟨m, hm⟩ := k0; exact DataW.trod_lt m _ _ _ hm
  obtain ⟨z0, w0⟩ : ∃ zs, IsRow .u8 W a0 len0 cap0 zs := by
    obtain ⟨fuel, hf⟩ := h0
    rcases open_ints Try.underlying22 Try.underlying5 (by kernel_rfl) hf with ⟨hcs, _⟩ | ⟨x, l, c, zs, hcs, _, hl, hm, hz, _, hcell, hwz⟩
    · simp [Value.cells] at hcs
      obtain ⟨rfl, rfl, rfl⟩ := hcs
      exact ⟨[], .inl ⟨rfl, rfl, rfl, rfl⟩⟩
    · simp [Value.cells] at hcs
      obtain ⟨rfl, rfl, rfl⟩ := hcs
      exact ⟨zs, .inr ⟨_, rfl, hl, hm, by simpa using hz, hcell, hwz⟩⟩
  obtain ⟨a1, len1, cap1, rfl⟩ := okWide_slice Try.underlying22 (hval 1 22 v1 rfl rfl)
  have k1 := h1
  have lt1 : ∀ x ∈ p1, x.block < W.heap.size := by obtain ⟨m, hm⟩ := k1; exact DataW.trod_lt m _ _ _ hm
  obtain ⟨z1, w1⟩ : ∃ zs, IsRow .u8 W a1 len1 cap1 zs := by
    obtain ⟨fuel, hf⟩ := h1
    rcases open_ints Try.underlying22 Try.underlying5 (by kernel_rfl) hf with ⟨hcs, _⟩ | ⟨x, l, c, zs, hcs, _, hl, hm, hz, _, hcell, hwz⟩
    · simp [Value.cells] at hcs
      obtain ⟨rfl, rfl, rfl⟩ := hcs
      exact ⟨[], .inl ⟨rfl, rfl, rfl, rfl⟩⟩
    · simp [Value.cells] at hcs
      obtain ⟨rfl, rfl, rfl⟩ := hcs
      exact ⟨zs, .inr ⟨_, rfl, hl, hm, by simpa using hz, hcell, hwz⟩⟩
  obtain ⟨a2, len2, cap2, rfl⟩ := okWide_slice Try.underlying22 (hval 2 22 v2 rfl rfl)
  have k2 := h2
  have lt2 : ∀ x ∈ p2, x.block < W.heap.size := by obtain ⟨m, hm⟩ := k2; exact DataW.trod_lt m _ _ _ hm
  obtain ⟨z2, w2⟩ : ∃ zs, IsRow .u8 W a2 len2 cap2 zs := by
    obtain ⟨fuel, hf⟩ := h2
    rcases open_ints Try.underlying22 Try.underlying5 (by kernel_rfl) hf with ⟨hcs, _⟩ | ⟨x, l, c, zs, hcs, _, hl, hm, hz, _, hcell, hwz⟩
    · simp [Value.cells] at hcs
      obtain ⟨rfl, rfl, rfl⟩ := hcs
      exact ⟨[], .inl ⟨rfl, rfl, rfl, rfl⟩⟩
    · simp [Value.cells] at hcs
      obtain ⟨rfl, rfl, rfl⟩ := hcs
      exact ⟨zs, .inr ⟨_, rfl, hl, hm, by simpa using hz, hcell, hwz⟩⟩
  clear hA0 hval0
  refine (walk a0 len0 cap0 z0 a1 len1 cap1 z1 a2 len2 cap2 z2 W w0 w1 w2).mono fun e W' ⟨he, bel⟩ => ?_
  subst he
  exact ⟨_, rfl, _, _, _, [], _, [], hW', trodAll_mk1 (shut_bool Try.underlying4 _), (trodAll_cons_mk (Below.trod laidOut (by kernel_rfl) (of_decide_eq_true (by kernel_rfl)) k0 bel lt0) (trodAll_cons_mk (Below.trod laidOut (by kernel_rfl) (of_decide_eq_true (by kernel_rfl)) k1 bel lt1) (trodAll_cons_mk (Below.trod laidOut (by kernel_rfl) (of_decide_eq_true (by kernel_rfl)) k2 bel lt2) trodAll_mk0))), rfl, bel.frame _, fun h => by cases h⟩

theorem over : Rows.crcLinearRow.holds Try.pinned (OpenSpec.ofChange Rows.crcLinearSpec) :=
  OpenClaim.holds_of_wide 7 Try.f7 rfl rfl rfl rfl rfl rfl rfl ⟨rfl, rfl, rfl, rfl, rfl⟩ rfl rfl rfl rfl rfl (by kernel_rfl) Try.func7 (by kernel_rfl)
    (of_decide_eq_true (by kernel_rfl)) (by unfold Func.isWrapper; first | (rw [if_pos (by decide +kernel)]; kernel_rfl) | (rw [if_neg (by decide +kernel)]; exact ⟨rfl, rfl⟩))
    (fun os started H enc _ => lifted os started H enc)

/-- ████ THE STATEMENT ████ -/
theorem proved : Rows.CrcLinearSaid := over
#print axioms proved
end Go.Proofs.Ytmkiafjooidpnaa.crcLinear

namespace Go.Proofs.Ytmkiafjooidpnaa
theorem crcLinear_holds : Rows.CrcLinearSaid := crcLinear.proved
#print axioms crcLinear_holds
end Go.Proofs.Ytmkiafjooidpnaa

/- What is proved: the Go function cachetlaw02.CrcFinds of this program answers true for every text, every place and every change, and leaves its arguments as they were: a text with bits changed in four bytes side by side has another check sum. No condition. -/
import Derived.Test.YtmkiafjooidpnaaCopy
import Derived.Test.YtmkiafjooidpnaaLin
import Derived.WalkKit
import Derived.ProofKit
import Derived.OpenShut
import Derived.ShutString
import Derived.ChangeOld
import Derived.Below
import Derived.Handy
namespace Go.Proofs.Ytmkiafjooidpnaa.crcFinds
open Go.ChangeShapes Go.WideShapes Go.ChangeAt Go.RowKit
open Go.ChangeMaps (open_string shut_string)
set_option linter.unusedVariables false

theorem own : ownKnob Try.prog.godebug = none := by kernel_rfl
theorem laidOut : laidOutB Try.prog = true := by kernel_rfl

theorem u32_nat {x : Int} (h : (Lit.int .u32 x).wf = true) : ∃ s : Nat, x = (s : Int) ∧ s < 4294967296 := by
  simp only [Lit.wf, Bool.and_eq_true, decide_eq_true_eq] at h
  have e1 : IntKind.u32.min = 0 := rfl
  have e2 : IntKind.u32.max = 4294967295 := rfl
  exact ⟨x.toNat, by omega, by omega⟩

theorem place (a : Int) (len : Nat) (h4 : 4 ≤ len) (h5 : len ≤ 5000) : ∃ K : Nat, wrap64 ((IntKind.u64.wrap a).tmod ((len : Int) - 3)) = (K : Int) ∧ K + 3 < len := by
  have e : IntKind.u64.wrap a = a % 18446744073709551616 := IntKind.wrap_u64 a
  have h0 : 0 ≤ a % 18446744073709551616 := by omega
  rw [e, Int.tmod_eq_emod_of_nonneg h0]
  have h1 := Int.emod_nonneg (a % 18446744073709551616) (show ((len : Int) - 3) ≠ 0 by omega)
  have h2 := Int.emod_lt_of_pos (a % 18446744073709551616) (show 0 < ((len : Int) - 3) by omega)
  generalize (a % 18446744073709551616) % ((len : Int) - 3) = q at h1 h2
  refine ⟨q.toNat, ?_, by omega⟩
  go_arith

theorem four_at (zs : List Int) (K : Nat) (h : K + 3 < zs.length) (hz : ∀ z ∈ zs, 0 ≤ z ∧ z < 256) :
    ∃ (A B : List Int) (c0 c1 c2 c3 : Nat), zs = A ++ ([(c0 : Int), (c1 : Int), (c2 : Int), (c3 : Int)] ++ B) ∧ A.length = K ∧ c0 < 256 ∧ c1 < 256 ∧ c2 < 256 ∧ c3 < 256 := by
  have g : ∀ i (hi : i < zs.length), ∃ c : Nat, zs[i] = (c : Int) ∧ c < 256 := by
    intro i hi
    have := hz zs[i] (List.getElem_mem hi)
    exact ⟨zs[i].toNat, by omega, by omega⟩
  obtain ⟨c0, e0, l0⟩ := g K (by omega)
  obtain ⟨c1, e1, l1⟩ := g (K + 1) (by omega)
  obtain ⟨c2, e2, l2⟩ := g (K + 2) (by omega)
  obtain ⟨c3, e3, l3⟩ := g (K + 3) (by omega)
  refine ⟨zs.take K, zs.drop (K + 4), c0, c1, c2, c3, ?_, by simp; omega, l0, l1, l2, l3⟩
  rw [← e0, ← e1, ← e2, ← e3]
  conv => lhs; rw [← List.take_append_drop K zs, List.drop_eq_getElem_cons (show K < zs.length by omega), List.drop_eq_getElem_cons (show K + 1 < zs.length by omega), List.drop_eq_getElem_cons (show K + 1 + 1 < zs.length by omega), List.drop_eq_getElem_cons (show K + 1 + 1 + 1 < zs.length by omega)]
  rfl

theorem read_at {base : Nat} {W : World} {g len cap : Nat} {zs : List Int} (hown : W.ownsRow base 5 1 (.slice (some ⟨g, 0, none⟩) len cap) len (byteVals zs)) (j : Nat) (hj : j < len) (c : Nat) (hc : zs[j]? = some (c : Int)) :
    W.cell? ⟨g, j, none⟩ = some (.int .u8 (c : Int)) := by
  rw [hown.cellAt j (by omega)]
  simp [byteVals, hc]

theorem store_step {w W : World} {g len cap : Nat} {zs : List Int} (hown : W.ownsRow w.heap.size 5 1 (.slice (some ⟨g, 0, none⟩) len cap) len (byteVals zs)) (hC : Below w.heap.size w W) (hg : w.heap.size ≤ g) (j : Nat) (y : Int) :
    (W.setCell ⟨g, j, none⟩ (.int .u8 y)).ownsRow w.heap.size 5 1 (.slice (some ⟨g, 0, none⟩) len cap) len (byteVals (zs.set j y)) ∧ Below w.heap.size w (W.setCell ⟨g, j, none⟩ (.int .u8 y)) := by
  obtain ⟨h1, _⟩ := hown.stored j (.int .u8 y)
  refine ⟨?_, hC.setCell hg _⟩
  have e : byteVals (zs.set j y) = (byteVals zs).set j (.int .u8 y) := by simp [byteVals, List.map_set]
  rw [e]; exact h1

theorem set_four (A B : List Int) (c0 c1 c2 c3 : Nat) (y0 y1 y2 y3 : Int) :
    ((((A ++ ([(c0 : Int), (c1 : Int), (c2 : Int), (c3 : Int)] ++ B)).set A.length y0).set (A.length + 1) y1).set (A.length + 2) y2).set (A.length + 3) y3 = A ++ ([y0, y1, y2, y3] ++ B) := by
  simp

theorem x8 (c b : Nat) (hc : c < 256) (hb : b < 256) : bits BinOp.xor IntKind.u8 (c : Int) ((b : Nat) : Int) = ((c ^^^ b : Nat) : Int) := u8_xor_nat c b hc hb

theorem four_xor (c0 c1 c2 c3 v : Nat) (k0 : c0 < 256) (k1 : c1 < 256) (k2 : c2 < 256) (k3 : c3 < 256) (hv : v < 4294967296) :
    bits BinOp.xor IntKind.u8 (c0 : Int) ((v : Int) % 256) = ((c0 ^^^ (v % 256) : Nat) : Int) ∧
    bits BinOp.xor IntKind.u8 (c1 : Int) ((v : Int) / 256 % 256) = ((c1 ^^^ (v / 256 % 256) : Nat) : Int) ∧
    bits BinOp.xor IntKind.u8 (c2 : Int) ((v : Int) / 65536 % 256) = ((c2 ^^^ (v / 65536 % 256) : Nat) : Int) ∧
    bits BinOp.xor IntKind.u8 (c3 : Int) ((v : Int) / 16777216) = ((c3 ^^^ (v / 16777216 % 256) : Nat) : Int) := by
  have e0 := x8 c0 (v % 256) k0 (by omega)
  have e1 := x8 c1 (v / 256 % 256) k1 (by omega)
  have e2 := x8 c2 (v / 65536 % 256) k2 (by omega)
  have e3 := x8 c3 (v / 16777216 % 256) k3 (by omega)
  have f0 : ((v % 256 : Nat) : Int) = (v : Int) % 256 := by omega
  have f1 : ((v / 256 % 256 : Nat) : Int) = (v : Int) / 256 % 256 := by omega
  have f2 : ((v / 65536 % 256 : Nat) : Int) = (v : Int) / 65536 % 256 := by omega
  have f3 : ((v / 16777216 % 256 : Nat) : Int) = (v : Int) / 16777216 := by omega
  rw [f0] at e0; rw [f1] at e1; rw [f2] at e2; rw [f3] at e3
  exact ⟨e0, e1, e2, e3⟩

theorem byte_xor (c b : Nat) (hc : c < 256) (hb : b < 256) : 0 ≤ ((c ^^^ b : Nat) : Int) ∧ ((c ^^^ b : Nat) : Int) < 256 := by
  have := Nat.xor_lt_two_pow (n := 8) hc hb
  omega

theorem four_bytes {A B : List Int} {c0 c1 c2 c3 : Nat} (hz : ∀ z ∈ A ++ ([(c0 : Int), (c1 : Int), (c2 : Int), (c3 : Int)] ++ B), 0 ≤ z ∧ z < 256) (k0 : c0 < 256) (k1 : c1 < 256) (k2 : c2 < 256) (k3 : c3 < 256) (v : Nat) :
    ∀ z ∈ A ++ ([((c0 ^^^ (v % 256) : Nat) : Int), ((c1 ^^^ (v / 256 % 256) : Nat) : Int), ((c2 ^^^ (v / 65536 % 256) : Nat) : Int), ((c3 ^^^ (v / 16777216 % 256) : Nat) : Int)] ++ B), 0 ≤ z ∧ z < 256 := by
  intro z h
  rcases List.mem_append.1 h with h | h
  · exact hz z (List.mem_append.2 (.inl h))
  · rcases List.mem_append.1 h with h | h
    · simp only [List.mem_cons, List.not_mem_nil, or_false] at h
      rcases h with rfl | rfl | rfl | rfl
      · exact byte_xor _ _ k0 (by omega)
      · exact byte_xor _ _ k1 (by omega)
      · exact byte_xor _ _ k2 (by omega)
      · exact byte_xor _ _ k3 (by omega)
    · exact hz z (List.mem_append.2 (.inr (List.mem_append.2 (.inr h))))

theorem found_sum (A B : List Int) (c0 c1 c2 c3 v : Nat) (hv : v < 4294967296) (hn : ¬ v = 0) (k0 : c0 < 256) (k1 : c1 < 256) (k2 : c2 < 256) (k3 : c3 < 256) (hz : ∀ z ∈ A ++ ([(c0 : Int), (c1 : Int), (c2 : Int), (c3 : Int)] ++ B), 0 ≤ z ∧ z < 256) :
    crcSum [A ++ ([((c0 ^^^ (v % 256) : Nat) : Int), ((c1 ^^^ (v / 256 % 256) : Nat) : Int), ((c2 ^^^ (v / 65536 % 256) : Nat) : Int), ((c3 ^^^ (v / 16777216 % 256) : Nat) : Int)] ++ B)].flatten ≠ crcSum [A ++ ([(c0 : Int), (c1 : Int), (c2 : Int), (c3 : Int)] ++ B)].flatten := by
  have h := crcRun_found A B c0 c1 c2 c3 v hv hn
  have l1 := crcRun_lt 4294967295 _ (by omega) (four_bytes hz k0 k1 k2 k3 v)
  have l2 := crcRun_lt 4294967295 _ (by omega) hz
  rw [List.flatten_cons, List.flatten_nil, List.append_nil, List.flatten_cons, List.flatten_nil, List.append_nil]
  unfold crcSum
  omega

theorem found_bytes {base : Nat} {W : World} {g len cap v : Nat} {A B : List Int} {c0 c1 c2 c3 : Nat}
    (hown : W.ownsRow base 5 1 (.slice (some ⟨g, 0, none⟩) len cap) len (byteVals (A ++ ([((c0 ^^^ (v % 256) : Nat) : Int), ((c1 ^^^ (v / 256 % 256) : Nat) : Int), ((c2 ^^^ (v / 65536 % 256) : Nat) : Int), ((c3 ^^^ (v / 16777216 % 256) : Nat) : Int)] ++ B))))
    (hz : ∀ z ∈ A ++ ([(c0 : Int), (c1 : Int), (c2 : Int), (c3 : Int)] ++ B), 0 ≤ z ∧ z < 256) (k0 : c0 < 256) (k1 : c1 < 256) (k2 : c2 < 256) (k3 : c3 < 256) :
    Bs W (some ⟨g, 0, none⟩) len (A ++ ([((c0 ^^^ (v % 256) : Nat) : Int), ((c1 ^^^ (v / 256 % 256) : Nat) : Int), ((c2 ^^^ (v / 65536 % 256) : Nat) : Int), ((c3 ^^^ (v / 16777216 % 256) : Nat) : Int)] ++ B)) := by
  obtain ⟨a, cap', hv, hbs, _, _⟩ := bs_owned hown (four_bytes hz k0 k1 k2 k3 v)
  simp only [Value.slice.injEq] at hv
  rw [hv.1]; exact hbs

/-! ### STEP 1: THE WALK: the Go text returns true, AND WRITES NOTHING THAT WAS THERE: 'Below w.heap.size w w'' (Derived/Below.lean: '.refl', '.alloc', '.drew', '.setCell' at a new block, '.trans'). Open each 'IsRow' by 'rcases' AHEAD of 'go_enter'; part every test ahead of the walk. -/
set_option maxHeartbeats 1000000 in
theorem walk (a0 : Option Addr) (len0 cap0 : Nat) (z0 : List Int) (a1 : Int) (a2 : Int) (w : World) (w0 : IsRow .u8 w a0 len0 cap0 z0) (w1 : (Lit.int .i64 a1).wf = true) (w2 : (Lit.int .u32 a2).wf = true) :
    Calls Try.prog 5 #[.slice a0 len0 cap0, .int .i64 a1, .int .u32 a2] w fun e w' => e = .returned (.bool true) ∧ Below w.heap.size w w' := by
  obtain ⟨hb0, hm0⟩ := bs_of_row w0
  obtain ⟨v, rfl, hv⟩ := u32_nat w2
  generalize z0.take len0 = za at hb0
  unfold maxLen at hm0
  clear w0
  by_cases h4 : len0 < 4
  · go_enter Try.func5, Try.ntmps5
    go_wp2_with fail
    refine (alive_any _).mono ?_
    rintro e wa ⟨rfl, hla⟩
    go_wp2_with fail
    go_ret
    exact ⟨rfl, hla⟩
  by_cases h5 : 5000 < len0
  · go_enter Try.func5, Try.ntmps5
    go_wp2_with fail
    refine (alive_any _).mono ?_
    rintro e wa ⟨rfl, hla⟩
    go_wp2_with fail
    go_ret
    exact ⟨rfl, hla⟩
  by_cases hv0 : v = 0
  · subst hv0
    go_enter Try.func5, Try.ntmps5
    go_wp2_with fail
    refine (alive_any _).mono ?_
    rintro e wa ⟨rfl, hla⟩
    go_wp2_with fail
    go_ret
    exact ⟨rfl, hla⟩
  have hvb : ((v : Int) == 0) = false := by simp; omega
  go_enter Try.func5, Try.ntmps5
  go_wp2_with fail
  refine (alive_any _).mono ?_
  rintro e wa ⟨rfl, hla⟩
  have hbA := hb0.later hla
  have ho := ownsRow_empty wa w.heap.size hla.size
  have hBo := hla.alloc hla.size (.cells #[] 5)
  have hbA1 := hbA.later (below_one wa (.cells #[] 5))
  go_wp2_with (at_builtin; refine wpList_append_bs rfl (.tmp 32) (.tmp 33) rfl w.heap.size (.slice (some ⟨wa.heap.size, 0, none⟩) 0 0) 0 [] rfl ho a0 len0 cap0 za rfl hbA1 (by omega) hBo.size ?_; intro v2 w2 hown2 hg2; have hC := hBo.grown hg2 hBo.size (fun k e => (ho.lt k e).1); clear hg2)
  obtain ⟨K, hK, hK3⟩ := place a1 len0 (by omega) (by omega)
  rw [hK]
  have hex : ∃ g cap, v2 = .slice (some ⟨g, 0, none⟩) len0 cap ∧ w.heap.size ≤ g ∧ w2.ownsRow w.heap.size 5 1 (.slice (some ⟨g, 0, none⟩) len0 cap) len0 (byteVals za) := by
    have e : [] ++ byteVals za = byteVals za := rfl
    rw [e, Nat.zero_add] at hown2
    obtain ⟨g, cap, hv, hg, _⟩ := owned_form hown2 (by omega)
    exact ⟨g, cap, hv, hg, by rw [← hv]; exact hown2⟩
  obtain ⟨g, cap2, hv2, hg, hown⟩ := hex
  rw [hv2]
  clear hown2 hv2 hBo hbA1 hbA ho hK
  have hzl := hb0.1
  obtain ⟨A, B, c0, c1, c2, c3, rfl, hAl, k0, k1, k2, k3⟩ := four_at za K (by omega) hb0.2.1
  obtain ⟨hx0, hx1, hx2, hx3⟩ := four_xor c0 c1 c2 c3 v k0 k1 k2 k3 hv
  have E0 := hide1 hx0
  have E1 := hide1 hx1
  have E2 := hide1 hx2
  have E3 := hide1 hx3
  have HF : Hid (crcSum [A ++ ([((c0 ^^^ (v % 256) : Nat) : Int), ((c1 ^^^ (v / 256 % 256) : Nat) : Int), ((c2 ^^^ (v / 65536 % 256) : Nat) : Int), ((c3 ^^^ (v / 16777216 % 256) : Nat) : Int)] ++ B)].flatten ≠ crcSum [A ++ ([(c0 : Int), (c1 : Int), (c2 : Int), (c3 : Int)] ++ B)].flatten) := found_sum A B c0 c1 c2 c3 v hv hv0 k0 k1 k2 k3 hb0.2.1
  clear hx0 hx1 hx2 hx3 hla
  have f0 := hown.frozenAt K
  have r0 := read_at hown K (by omega) c0 (by simp [← hAl])
  refine wp_loop_rounds 5 ?_
  rw [rounds_succ]
  go_wp2
  rw [E0.out]
  obtain ⟨hown1, hC1⟩ := store_step hown hC hg K ((c0 ^^^ (v % 256) : Nat) : Int)
  generalize w2.setCell ⟨g, K, none⟩ (.int .u8 ((c0 ^^^ (v % 256) : Nat) : Int)) = W1 at hown1 hC1 ⊢
  clear hown hC f0 r0
  have f1 := hown1.frozenAt (K + 1)
  have r1 := read_at hown1 (K + 1) (by omega) c1 (by simp [← hAl])
  rw [rounds_succ]
  go_wp2
  rw [E1.out]
  obtain ⟨hown2, hC2⟩ := store_step hown1 hC1 hg (K + 1) ((c1 ^^^ (v / 256 % 256) : Nat) : Int)
  generalize W1.setCell ⟨g, K + 1, none⟩ (.int .u8 ((c1 ^^^ (v / 256 % 256) : Nat) : Int)) = W2 at hown2 hC2 ⊢
  clear hown1 hC1 f1 r1
  have f2 := hown2.frozenAt (K + 2)
  have r2 := read_at hown2 (K + 2) (by omega) c2 (by simp [← hAl])
  rw [rounds_succ]
  go_wp2
  rw [E2.out]
  obtain ⟨hown3, hC3⟩ := store_step hown2 hC2 hg (K + 2) ((c2 ^^^ (v / 65536 % 256) : Nat) : Int)
  generalize W2.setCell ⟨g, K + 2, none⟩ (.int .u8 ((c2 ^^^ (v / 65536 % 256) : Nat) : Int)) = W3 at hown3 hC3 ⊢
  clear hown2 hC2 f2 r2
  have f3 := hown3.frozenAt (K + 3)
  have r3 := read_at hown3 (K + 3) (by omega) c3 (by simp [← hAl])
  rw [rounds_succ]
  go_wp2
  rw [E3.out]
  obtain ⟨hown4, hC4⟩ := store_step hown3 hC3 hg (K + 3) ((c3 ^^^ (v / 16777216 % 256) : Nat) : Int)
  generalize W3.setCell ⟨g, K + 3, none⟩ (.int .u8 ((c3 ^^^ (v / 16777216 % 256) : Nat) : Int)) = W4 at hown4 hC4 ⊢
  clear hown3 hC3 f3 r3
  have hset := set_four A B c0 c1 c2 c3 ((c0 ^^^ (v % 256) : Nat) : Int) ((c1 ^^^ (v / 256 % 256) : Nat) : Int) ((c2 ^^^ (v / 65536 % 256) : Nat) : Int) ((c3 ^^^ (v / 16777216 % 256) : Nat) : Int)
  rw [hAl] at hset
  rw [hset] at hown4
  have hb4 := found_bytes hown4 hb0.2.1 k0 k1 k2 k3
  have hbt := hb0.later hC4
  clear hset hown4
  generalize hY : A ++ ([((c0 ^^^ (v % 256) : Nat) : Int), ((c1 ^^^ (v / 256 % 256) : Nat) : Int), ((c2 ^^^ (v / 65536 % 256) : Nat) : Int), ((c3 ^^^ (v / 16777216 % 256) : Nat) : Int)] ++ B) = Y at *
  generalize hX : A ++ ([(c0 : Int), (c1 : Int), (c2 : Int), (c3 : Int)] ++ B) = X at *
  clear hY hX E0 E1 E2 E3
  rw [rounds_succ]
  go_wp2_with fail
  refine (of_any _ 1 1 [Y] _ (parts_new1 W4 hb4 (by unfold maxLen; omega)) (by decide)).mono ?_
  rintro e w5 ⟨rfl, hl5⟩
  have hs5 := (below_one W4 (.cells #[.slice (some ⟨g, 0, none⟩) len0 cap2] 22)).trans (hl5.mono (by simp))
  have hbt5 := hbt.later hs5
  have hC5 := hC4.trans (hs5.mono hC4.size)
  clear hl5 hs5 hbt hC4 hb4
  go_wp2_with fail
  refine (of_any _ 1 1 [X] _ (parts_new1 w5 hbt5 (by unfold maxLen; omega)) (by decide)).mono ?_
  rintro e w6 ⟨rfl, hl6⟩
  have hs6 := (below_one w5 (.cells #[.slice a0 len0 cap0] 22)).trans (hl6.mono (by simp))
  have hC6 := hC5.trans (hs6.mono hC5.size)
  have hne : (((crcSum Y : Nat) : Int) != ((crcSum X : Nat) : Int)) = true := by
    have := HF.out
    rw [List.flatten_cons, List.flatten_nil, List.append_nil, List.flatten_cons, List.flatten_nil, List.append_nil] at this
    rw [bne_iff_ne]
    omega
  clear hl6 hs6 hbt5 hC5
  go_wp2_with fail
  go_ret
  exact ⟨rfl, hC6⟩

/-! ### THE ROW's STEP: WRITTEN OUT: LEAVE IT -/
set_option maxRecDepth 100000 in
theorem lifted (os : Os) (started : os.Started) (H : Type) (enc : TypeId × Value → H) :
    ReturnsInHanded {} Try.checked os 5 .any (Rows.crcFindsSpec.pre6 enc Try.prog Try.f5 Rows.crcFindsRow.domain false) (Rows.crcFindsSpec.post enc Try.prog Try.f5 false true false false) := by
  refine returnsInHanded_of_change (C := Try.checked) own started (by kernel_rfl) Try.func5
    (ChangeSpec.witness6 (enc := enc) (C := Try.checked) false ⟨#[], #[.slice none 0 0, .int .i64 0, .int .u32 0], []⟩ 8 (by kernel_rfl) (by kernel_rfl) (by kernel_rfl) (by kernel_rfl)) ?_
  intro W base args ds gs before hval0 hW hcnd _
  have hval : ∀ (j : Nat) t v, Try.f5.params[j]? = some t → args[j]? = some v → Value.okWide Try.prog W .any base t v := hval0
  have hW' := hW
  obtain ⟨p, q, hA0, hV, rfl, hfz, hnd⟩ := hW
  have hA : DataW.TrodAll enc Try.prog W 0 (fun _ => true) true Try.f5.params.toList args.toList ds p := hA0
  rw [Try.params5] at hA hval
  obtain ⟨v0, vs0, d0, ds0, p0, q0, hargs, rfl, rfl, h0, r0⟩ := trodAll_cons hA
  obtain ⟨v1, vs1, d1, ds1, p1, q1, rfl, rfl, rfl, h1, r1⟩ := trodAll_cons r0
  obtain ⟨v2, vs2, d2, ds2, p2, q2, rfl, rfl, rfl, h2, r2⟩ := trodAll_cons r1
  obtain ⟨rfl, rfl, rfl⟩ := trodAll_nil r2
  obtain rfl : args = #[v0, v1, v2] := by cases args; simp_all
  obtain ⟨rfl, rfl⟩ := trodVars_none hV
  obtain ⟨a0, len0, cap0, rfl⟩ := okWide_slice Try.underlying22 (hval 0 22 v0 rfl rfl)
  have k0 := h0
  have lt0 : ∀ x ∈ p0, x.block < W.heap.size := by obtain ⟨m, hm⟩ := k0; exact DataW.trod_lt m _ _ _ hm
  obtain ⟨z0, w0⟩ : ∃ zs, IsRow .u8 W a0 len0 cap0 zs := by
    obtain ⟨fuel, hf⟩ := h0
    rcases open_ints Try.underlying22 Try.underlying5 (by kernel_rfl) hf with ⟨hcs, _⟩ | ⟨x, l, c, zs, hcs, _, hl, hm, hz, _, hcell, hwz⟩
    · simp [Value.cells] at hcs
      obtain ⟨rfl, rfl, rfl⟩ := hcs
      exact ⟨[], .inl ⟨rfl, rfl, rfl, rfl⟩⟩
    · simp [Value.cells] at hcs
      obtain ⟨rfl, rfl, rfl⟩ := hcs
      exact ⟨zs, .inr ⟨_, rfl, hl, hm, by simpa using hz, hcell, hwz⟩⟩
  obtain ⟨a1, rfl, rfl, rfl, w1⟩ := open_int Try.underlying3 (hval 1 3 v1 rfl rfl) h1
  obtain ⟨a2, rfl, rfl, rfl, w2⟩ := open_int Try.underlying25 (hval 2 25 v2 rfl rfl) h2
  clear hA0 hval0
  refine (walk a0 len0 cap0 z0 a1 a2 W w0 w1 w2).mono fun e W' ⟨he, bel⟩ => ?_
  subst he
  exact ⟨_, rfl, _, _, _, [], _, [], hW', trodAll_mk1 (shut_bool Try.underlying4 _), (trodAll_cons_mk (Below.trod laidOut (by kernel_rfl) (of_decide_eq_true (by kernel_rfl)) k0 bel lt0) (trodAll_cons_mk (shut_int Try.underlying3 w1) (trodAll_cons_mk (shut_int Try.underlying25 w2) trodAll_mk0))), rfl, bel.frame _, fun h => by cases h⟩

theorem over : Rows.crcFindsRow.holds Try.pinned (OpenSpec.ofChange Rows.crcFindsSpec) :=
  OpenClaim.holds_of_wide 5 Try.f5 rfl rfl rfl rfl rfl rfl rfl ⟨rfl, rfl, rfl, rfl, rfl⟩ rfl rfl rfl rfl rfl (by kernel_rfl) Try.func5 (by kernel_rfl)
    (of_decide_eq_true (by kernel_rfl)) (by unfold Func.isWrapper; first | (rw [if_pos (by decide +kernel)]; kernel_rfl) | (rw [if_neg (by decide +kernel)]; exact ⟨rfl, rfl⟩))
    (fun os started H enc _ => lifted os started H enc)

/-- ████ THE STATEMENT ████ -/
theorem proved : Rows.CrcFindsSaid := over
#print axioms proved
end Go.Proofs.Ytmkiafjooidpnaa.crcFinds

namespace Go.Proofs.Ytmkiafjooidpnaa
theorem crcFinds_holds : Rows.CrcFindsSaid := crcFinds.proved
#print axioms crcFinds_holds
end Go.Proofs.Ytmkiafjooidpnaa

/- Rest1, Z4, Z6, Z5, CurveResiduesWalk: laid together. -/
import Derived.Maps.AppendAt
import Derived.Laws.OwnMore
import Derived.OwnWalk
import Derived.WalkKit
import Derived.Below
import Derived.ProofKit
import Derived.OpenShut
import Derived.Test.YtpogmflgmpifoaaG2
namespace Go.Proofs.Ytpogmflgmpifoaa
open Go.RowKit Go.Shelf
def kl0 (l : List Nat) (i : Nat) : Nat := l.getD i 0
theorem order_k (W0 : World) : Calls Try.prog 20 #[] W0 fun e w' => e = .returned (.agg (ck (kq oL))) ∧ Below W0.heap.size W0 w' := by
  rw [show ck (kq oL) = ck (kl0 [237, 211, 245, 92, 26, 99, 18, 88, 214, 156, 247, 162, 222, 249, 222, 20, 0, 0, 0, 0, 0, 0, 0, 0, 0, 0, 0, 0, 0, 0, 0, 16]) from ck_congr (by decide +kernel)]
  refine s_in Try.func20 Try.ntmps20 rfl [] ?_
  intro β a h
  refine sym_seq ?_
  refine St.rg h [(0, .inr (0, pt 0))] [(ck (fun _ => 0), 23)] [] [eN 0] ?_ ?_
  · exact oc (k_al 0 alK rfl rfl) <|
    ok_nil
  clear h; intro β a w h
  refine sym_then ?_
  refine sym_seq ?_
  refine St.rg h [(1, .inl (.agg (ck (kl0 [237, 211, 245, 92, 26, 99, 18, 88, 214, 156, 247, 162, 222, 249, 222, 20, 0, 0, 0, 0, 0, 0, 0, 0, 0, 0, 0, 0, 0, 0, 0, 16]))))] [] [(0, ck (kl0 [237, 211, 245, 92, 26, 99, 18, 88, 214, 156, 247, 162, 222, 249, 222, 20, 0, 0, 0, 0, 0, 0, 0, 0, 0, 0, 0, 0, 0, 0, 0, 16]))] [nn, eS 0] ?_ ?_
  · exact oc (k_bu #[(0, .int .u8 ((237 : Nat) : Int)), (1, .int .u8 ((211 : Nat) : Int)), (2, .int .u8 ((245 : Nat) : Int)), (3, .int .u8 ((92 : Nat) : Int)), (4, .int .u8 ((26 : Nat) : Int)), (5, .int .u8 ((99 : Nat) : Int)), (6, .int .u8 ((18 : Nat) : Int)), (7, .int .u8 ((88 : Nat) : Int)), (8, .int .u8 ((214 : Nat) : Int)), (9, .int .u8 ((156 : Nat) : Int)), (10, .int .u8 ((247 : Nat) : Int)), (11, .int .u8 ((162 : Nat) : Int)), (12, .int .u8 ((222 : Nat) : Int)), (13, .int .u8 ((249 : Nat) : Int)), (14, .int .u8 ((222 : Nat) : Int)), (15, .int .u8 ((20 : Nat) : Int)), (16, .int .u8 ((0 : Nat) : Int)), (17, .int .u8 ((0 : Nat) : Int)), (18, .int .u8 ((0 : Nat) : Int)), (19, .int .u8 ((0 : Nat) : Int)), (20, .int .u8 ((0 : Nat) : Int)), (21, .int .u8 ((0 : Nat) : Int)), (22, .int .u8 ((0 : Nat) : Int)), (23, .int .u8 ((0 : Nat) : Int)), (24, .int .u8 ((0 : Nat) : Int)), (25, .int .u8 ((0 : Nat) : Int)), (26, .int .u8 ((0 : Nat) : Int)), (27, .int .u8 ((0 : Nat) : Int)), (28, .int .u8 ((0 : Nat) : Int)), (29, .int .u8 ((0 : Nat) : Int)), (30, .int .u8 ((0 : Nat) : Int)), (31, .int .u8 ((16 : Nat) : Int))] (.agg (ck (kl0 [237, 211, 245, 92, 26, 99, 18, 88, 214, 156, 247, 162, 222, 249, 222, 20, 0, 0, 0, 0, 0, 0, 0, 0, 0, 0, 0, 0, 0, 0, 0, 16]))) (fun w => by kernel_rfl) rfl rfl) <|
    oc (k_st 0 0 (.agg (ck (kl0 [237, 211, 245, 92, 26, 99, 18, 88, 214, 156, 247, 162, 222, 249, 222, 20, 0, 0, 0, 0, 0, 0, 0, 0, 0, 0, 0, 0, 0, 0, 0, 16]))) (c := ck (fun _ => 0)) (n := ck (kl0 [237, 211, 245, 92, 26, 99, 18, 88, 214, 156, 247, 162, 222, 249, 222, 20, 0, 0, 0, 0, 0, 0, 0, 0, 0, 0, 0, 0, 0, 0, 0, 16])) (stK (F := (kl0 [237, 211, 245, 92, 26, 99, 18, 88, 214, 156, 247, 162, 222, 249, 222, 20, 0, 0, 0, 0, 0, 0, 0, 0, 0, 0, 0, 0, 0, 0, 0, 16])) (c := ck (fun _ => 0)) 23 (ck_size _)) rfl rfl) <|
    ok_nil
  clear h; intro β a w h
  refine sym_then ?_
  refine wp_ret ?_
  exact s_rc (b := 0) (t0 := 23) (c := ck (kl0 [237, 211, 245, 92, 26, 99, 18, 88, 214, 156, 247, 162, 222, 249, 222, 20, 0, 0, 0, 0, 0, 0, 0, 0, 0, 0, 0, 0, 0, 0, 0, 16])) h Try.results20 Try.underlying23 (fun hb => ⟨rfl, hb⟩) (by rw [ck_size]; kernel_rfl)
def dn33 (k : Nat) : Int := 33 - (k : Int)
def dnL (len k : Nat) : Int := (len : Int) - 1 - (k : Int)
theorem dn33_v {k : Nat} (h : k < 34) : Value.int .i64 (dn33 k) = Value.int .i64 (((33 - k : Nat)) : Int) := by unfold dn33; congr 1; omega
theorem dnL_v {len k : Nat} (h : k < len) : Value.int .i64 (dnL len k) = Value.int .i64 (((len - 1 - k : Nat)) : Int) := by unfold dnL; congr 1; omega
section
variable {x u : Operand}
theorem sb_33 {k : Nat} (h : k < 34) (w : World) : (do eqGuard .sub 3 x u (.int .i64 (((33 - k : Nat)) : Int)) (.int .i64 ((1 : Nat) : Int)); binOp .sub 3 (.int .i64 (((33 - k : Nat)) : Int)) (.int .i64 ((1 : Nat) : Int))).run Try.prog w = .ok (.int .i64 (dn33 (k + 1))) w := by
  have := sb_z (x := x) (u := u) (m := (((33 - k : Nat)) : Int)) (n := ((1 : Nat) : Int)) (by omega) (by omega) w
  rwa [show (((33 - k : Nat)) : Int) - ((1 : Nat) : Int) = dn33 (k + 1) by unfold dn33; omega] at this
theorem sb_L {len k : Nat} (h : k < len) (hm : len ≤ 1000) (w : World) : (do eqGuard .sub 3 x u (.int .i64 (((len - 1 - k : Nat)) : Int)) (.int .i64 ((1 : Nat) : Int)); binOp .sub 3 (.int .i64 (((len - 1 - k : Nat)) : Int)) (.int .i64 ((1 : Nat) : Int))).run Try.prog w = .ok (.int .i64 (dnL len (k + 1))) w := by
  have := sb_z (x := x) (u := u) (m := (((len - 1 - k : Nat)) : Int)) (n := ((1 : Nat) : Int)) (by omega) (by omega) w
  rwa [show (((len - 1 - k : Nat)) : Int) - ((1 : Nat) : Int) = dnL len (k + 1) by unfold dnL; omega] at this
theorem sb_len {len : Nat} (hm : len ≤ 1000) (w : World) : (do eqGuard .sub 3 x u (.int .i64 ((len : Nat) : Int)) (.int .i64 ((1 : Nat) : Int)); binOp .sub 3 (.int .i64 ((len : Nat) : Int)) (.int .i64 ((1 : Nat) : Int))).run Try.prog w = .ok (.int .i64 (dnL len 0)) w := by
  have := sb_z (x := x) (u := u) (m := ((len : Nat) : Int)) (n := ((1 : Nat) : Int)) (by omega) (by omega) w
  rwa [show ((len : Nat) : Int) - ((1 : Nat) : Int) = dnL len 0 by unfold dnL; omega] at this
theorem sb_k1 {t : Nat} (h : t < 33) (w : World) : (do eqGuard .sub 3 x u (.int .i64 (((33 - t : Nat)) : Int)) (.int .i64 ((1 : Nat) : Int)); binOp .sub 3 (.int .i64 (((33 - t : Nat)) : Int)) (.int .i64 ((1 : Nat) : Int))).run Try.prog w = .ok (.int .i64 (((33 - t - 1 : Nat)) : Int)) w :=
  sb_zn (by omega) (by omega) w
end
theorem cv_ib8 {n : Nat} (w : World) : (convert 3 5 (.int .i64 ((n : Nat) : Int))).run Try.prog w = .ok (.int .u8 ((n % 256 : Nat) : Int)) w := by
  have h1 : IntKind.u8.wrap (n : Int) = ((n % 256 : Nat) : Int) := by rw [IntKind.wrap_u8]; omega
  simp [convert, go_sem, h1]
theorem ld_sh {t0 : TypeId} {R t : Nat} (h : t < 33) (w : World) (q : Nat) (hq : w.heap[q]? = some (.cells (ai 34 (shF R t)) t0 (0, 0))) : (Instr.loadAt 3 (.pointer (some ⟨q, 33 - t - 1, none⟩))).run Try.prog w = .ok (.int .i64 ((kq R (33 - t - 1) : Nat) : Int)) w := by
  have := ld_at (i := 33 - t - 1) (by omega) w q hq
  rwa [shF_at h] at this
theorem ld_suq {t0 : TypeId} {X k : Nat} (hi : k < 34) (w : World) (q : Nat) (h : w.heap[q]? = some (.cells (ai 34 (suFq X oL k)) t0 (0, 0))) : (Instr.loadAt 3 (.pointer (some ⟨q, k, none⟩))).run Try.prog w = .ok (.int .i64 ((kq X k : Nat) : Int)) w := by
  have := ld_at hi w q h
  rwa [suF_atq] at this
theorem kF_nextR (n k : Nat) : ck (updN (kF n k) k (kq n k % 256)) = ck (kF n (k + 1)) := by
  refine ck_congr fun i _ => ?_
  unfold updN kF
  by_cases h : i = k
  · subst h; simp [Nat.mod_eq_of_lt (kq_lt n i)]
  · have : (i < k + 1) = (i < k) := by simp; omega
    simp [h, this]
theorem m_lt {M R x : Nat} (hM : M = 256 * R + x) (hR : R < oL) (hx : x < 256) : M < 256 ^ 34 := by
  have h1 : 256 * oL + 256 < 256 ^ 34 := by decide +kernel
  generalize 256 ^ 34 = P at *
  generalize oL = L at *
  omega
theorem c_le {M c : Nat} (h : c < M / oL) : oL ≤ M - c * oL := by
  have h1 : (c + 1) * oL ≤ M / oL * oL := Nat.mul_le_mul_right _ h
  have h2 := Nat.div_mul_le_self M oL
  rw [Nat.add_mul, Nat.one_mul] at h1
  omega
theorem c_eq {M : Nat} : M - M / oL * oL = M % oL := by
  have h2 := Nat.div_add_mod' M oL
  omega
theorem c_lt {M : Nat} : M - M / oL * oL < oL := by rw [c_eq]; exact Nat.mod_lt _ oL_pos
theorem sub_c {M c : Nat} : M - c * oL - oL = M - (c + 1) * oL := by rw [Nat.add_mul, Nat.one_mul]; omega
theorem r_start {g : Nat → Nat} (hg : ∀ i, g i < 256) {len : Nat} : ai 34 (kq 0) = ai 34 (kq (nB g len / 256 ^ (len - 0) % oL)) := by
  rw [Nat.sub_zero, Nat.div_eq_of_lt (nB_lt hg len), Nat.zero_mod]
theorem r_next {g : Nat → Nat} (hg : ∀ i, g i < 256) {len j R M X : Nat} (hj : j < len) (hR : R = nB g len / 256 ^ (len - j) % oL) (hM : M = 256 * R + g (len - 1 - j)) (hX : X = M - M / oL * oL) : ai 34 (kq X) = ai 34 (kq (nB g len / 256 ^ (len - (j + 1)) % oL)) := by
  have e : X = nB g len / 256 ^ (len - (j + 1)) % oL := by
    rw [hX, c_eq, hM, hR]
    have hd := nB_byte hg len (len - 1 - j) (by omega)
    rw [show len - j = (len - 1 - j) + 1 by omega, show len - (j + 1) = len - 1 - j by omega, Nat.pow_succ, ← Nat.div_div_eq_div_mul]
    generalize nB g len / 256 ^ (len - 1 - j) = m at *
    rw [← hd, Nat.add_mod, Nat.mul_mod_mod, ← Nat.add_mod]
    congr 1; omega
  rw [e]
set_option maxHeartbeats 8000000 in
theorem rest_w {aa : Option Addr} {len cap : Nat} {g : Nat → Nat} (hm : len ≤ 1000) (W0 : World) (hb : Bi W0 aa len g) : Calls Try.prog 54 #[.slice aa len cap] W0 fun e w' => e = .returned (.agg (ck (kq (nB g len / 256 ^ (len - len) % oL)))) ∧ Below W0.heap.size W0 w' := by
  rw [← kF_end]
  obtain ⟨b0, off0, he⟩ : ∃ b0 off0, 0 < len → aa = some ⟨b0, off0, none⟩ ∧ ∀ i, i < len → W0.cell? ⟨b0, off0 + i, none⟩ = some (.int .i64 ((g i : Nat) : Int)) := by
    rcases Nat.eq_zero_or_pos len with h0 | h0
    · exact ⟨0, 0, fun h => absurd h (by omega)⟩
    · obtain ⟨b, off, e, hc⟩ := hb.2 h0
      exact ⟨b, off, fun _ => ⟨e, hc⟩⟩
  refine s_in Try.func54 Try.ntmps54 rfl [.inl (.slice aa len cap)] ?_
  intro β a h
  refine sym_seq ?_
  refine St.rg h [(2, .inr (0, pt 0))] [(ck (fun _ => 0), 23)] [] [eN 0] ?_ ?_
  · exact oc (k_al 0 alK rfl rfl) <|
    ok_nil
  clear h; intro β a w h
  refine sym_then ?_
  refine sym_seq ?_
  refine St.rg h [(15, .inl (.agg (ck (kq oL)))), (3, .inr (1, pt 0))] [(ck (fun _ => 0), 23)] [(1, ck (kq oL))] [nn, eN 1, eS 1] ?_ ?_
  · exact oc (k_ca 20 #[] (.agg (ck (kq oL))) order_k rfl rfl) <|
    oc (k_al 1 alK rfl rfl) <|
    oc (k_st 1 0 (.agg (ck (kq oL))) (c := ck (fun _ => 0)) (n := ck (kq oL)) (stK (F := (kq oL)) (c := ck (fun _ => 0)) 23 (ck_size _)) rfl rfl) <|
    ok_nil
  clear h; intro β a w h
  refine sym_then ?_
  refine sym_seq ?_
  refine St.rg h [(4, .inr (2, pt 0))] [(ai 34 (kq 0), 106)] [] [eN 2] ?_ ?_
  · exact oc (k_al 2 al34 rfl rfl) <|
    ok_nil
  clear h; intro β a w h
  refine sym_then ?_
  refine sym_seq ?_
  refine sym_seq ?_
  refine St.r0 h [(16, .inl (.slice aa len cap)), (17, .inl (.int .i64 ((len : Nat) : Int))), (18, .inl (.int .i64 (dnL len 0))), (5, .inl (.int .i64 (dnL len 0)))] [] ?_ ?_
  · exact oz (k_mv (.inl rfl) rfl) <|
    oz (k_ln len cap rfl rfl (fun w => len_runi _ w) (ad := aa)) <|
    oz (k_bi (.int .i64 ((len : Nat) : Int)) (.int .i64 ((1 : Nat) : Int)) (.int .i64 (dnL len 0)) (sb_len hm) rfl rfl) <|
    oz (k_mv (.inr rfl) rfl) <|
    ok_nil
  clear h; intro β a w h
  refine sym_then ?_
  refine blk_in ?_
  replace h := St.sm h 2 (ai 34 (kq (nB g len / 256 ^ (len - 0) % oL))) (c := ai 34 (kq 0)) (t := 106) (r_start hb.1)
  obtain ⟨x, h⟩ := St.jn (n := 94) h [0, 2, 3, 4, 5, 15, 16, 17, 18] [.inl (.slice aa len cap), .inr (0, pt 0), .inr (1, pt 0), .inr (2, pt 0), .inl (.int .i64 (dnL len 0)), .inl (.agg (ck (kq oL))), .inl (.slice aa len cap), .inl (.int .i64 ((len : Nat) : Int)), .inl (.int .i64 (dnL len 0))] [(ck (fun _ => 0), 23), (ck (kq oL), 23), (ai 34 (kq (nB g len / 256 ^ (len - 0) % oL)), 106)] (by kernel_rfl) (by kernel_rfl) (by kernel_rfl)
  refine loop_up len (fun j a w => ∃ (x : Nat → SV) (β : Nat → Nat), St (wd W0) (ov (jk 94 x) ([0, 2, 3, 4, 5, 15, 16, 17, 18].zip [.inl (.slice aa len cap), .inr (0, pt 0), .inr (1, pt 0), .inr (2, pt 0), .inl (.int .i64 (dnL len j)), .inl (.agg (ck (kq oL))), .inl (.slice aa len cap), .inl (.int .i64 ((len : Nat) : Int)), .inl (.int .i64 (dnL len 0))])) [(ck (fun _ => 0), 23), (ck (kq oL), 23), (ai 34 (kq (nB g len / 256 ^ (len - j) % oL)), 106)] β a w) ⟨x, _, h⟩ ?_
  clear h; rintro j a w hkj ⟨x, β, h⟩
  rcases Nat.lt_or_ge j len with hltj | hgej
  · replace h := St.ss h 5 (.int .i64 (((len - 1 - j) : Nat) : Int)) (v := .int .i64 (dnL len j)) (dnL_v hltj)
    obtain ⟨hae, hcell⟩ := he (by omega)
    obtain ⟨R, hR⟩ : ∃ R, R = (nB g len / 256 ^ (len - j) % oL) := ⟨_, rfl⟩
    have hRl : R < oL := by rw [hR]; exact Nat.mod_lt _ oL_pos
    replace h := St.sm h 2 (ai 34 (kq R)) (c := ai 34 (kq (nB g len / 256 ^ (len - j) % oL))) (t := 106) (by rw [hR])
    obtain ⟨M, hM⟩ : ∃ M, M = 256 * R + g (len - 1 - j) := ⟨_, rfl⟩
    have hgx := hb.1 (len - 1 - j)
    have hML := m_lt hM hRl hgx
    refine sym_seq ?_
    refine sym_seq ?_
    refine St.r0 h [(19, .inl (.int .i64 (((len - 1 - j) : Nat) : Int))), (20, .inl (.bool true))] [] ?_ ?_
    · exact oz (k_mv (.inl rfl) rfl) <|
      oz (k_bi (.int .i64 (((len - 1 - j) : Nat) : Int)) (.int .i64 ((0 : Nat) : Int)) (.bool true) (ge_i (m := (((len - 1 - j) : Nat) : Int)) (n := ((0 : Nat) : Int)) (decide_eq_true (by omega))) rfl rfl) <|
      ok_nil
    clear h; intro β a w h
    refine sym_then ?_
    refine s_ct h ?_
    refine wp_skip ?_
    refine sym_then ?_
    refine sym_seq ?_
    refine blk_in ?_
    refine sym_seq ?_
    refine sym_seq ?_
    refine St.r0 h [(6, .inl (.int .i64 ((33 : Nat) : Int)))] [] ?_ ?_
    · exact oz (k_mv (.inr rfl) rfl) <|
      ok_nil
    clear h; intro β a w h
    refine sym_then ?_
    refine blk_in ?_
    replace h := St.sm h 2 (ai 34 (shF R 0)) (c := ai 34 (kq R)) (t := 106) (shF_0 R)
    replace h := St.ss h 6 (.int .i64 (dn33 0)) (v := .int .i64 ((33 : Nat) : Int)) rfl
    obtain ⟨x, h⟩ := St.jn (n := 94) h [0, 2, 3, 4, 5, 6, 15, 16, 17, 18, 19, 20] [.inl (.slice aa len cap), .inr (0, pt 0), .inr (1, pt 0), .inr (2, pt 0), .inl (.int .i64 (((len - 1 - j) : Nat) : Int)), .inl (.int .i64 (dn33 0)), .inl (.agg (ck (kq oL))), .inl (.slice aa len cap), .inl (.int .i64 ((len : Nat) : Int)), .inl (.int .i64 (dnL len 0)), .inl (.int .i64 (((len - 1 - j) : Nat) : Int)), .inl (.bool true)] [(ck (fun _ => 0), 23), (ck (kq oL), 23), (ai 34 (shF R 0), 106)] (by kernel_rfl) (by kernel_rfl) (by kernel_rfl)
    refine loop_up 33 (fun t a w => ∃ (x : Nat → SV) (β : Nat → Nat), St (wd W0) (ov (jk 94 x) ([0, 2, 3, 4, 5, 6, 15, 16, 17, 18, 19, 20].zip [.inl (.slice aa len cap), .inr (0, pt 0), .inr (1, pt 0), .inr (2, pt 0), .inl (.int .i64 (((len - 1 - j) : Nat) : Int)), .inl (.int .i64 (dn33 t)), .inl (.agg (ck (kq oL))), .inl (.slice aa len cap), .inl (.int .i64 ((len : Nat) : Int)), .inl (.int .i64 (dnL len 0)), .inl (.int .i64 (((len - 1 - j) : Nat) : Int)), .inl (.bool true)])) [(ck (fun _ => 0), 23), (ck (kq oL), 23), (ai 34 (shF R t), 106)] β a w) ⟨x, _, h⟩ ?_
    clear h; rintro t a w hkt ⟨x, β, h⟩
    rcases Nat.lt_or_ge t 33 with hltt | hget
    · replace h := St.ss h 6 (.int .i64 (((33 - t) : Nat) : Int)) (v := .int .i64 (dn33 t)) (dn33_v (by omega))
      refine sym_seq ?_
      refine sym_seq ?_
      refine St.r0 h [(23, .inl (.int .i64 (((33 - t) : Nat) : Int))), (24, .inl (.bool true))] [] ?_ ?_
      · exact oz (k_mv (.inl rfl) rfl) <|
        oz (k_bi (.int .i64 (((33 - t) : Nat) : Int)) (.int .i64 ((0 : Nat) : Int)) (.bool true) (gt_i (m := (((33 - t) : Nat) : Int)) (n := ((0 : Nat) : Int)) (decide_eq_true (by omega))) rfl rfl) <|
        ok_nil
      clear h; intro β a w h
      refine sym_then ?_
      refine s_ct h ?_
      refine wp_skip ?_
      refine sym_then ?_
      refine sym_seq ?_
      refine blk_in ?_
      refine St.rg h [(27, .inl (.int .i64 (((33 - t) : Nat) : Int))), (28, .inl (.int .i64 (((33 - t) : Nat) : Int))), (29, .inl (.int .i64 (((33 - t - 1) : Nat) : Int))), (30, .inr (2, pt (33 - t - 1))), (31, .inl (.int .i64 (((kq R (33 - t - 1)) : Nat) : Int))), (32, .inr (2, pt (33 - t)))] [] [(2, ai 34 (updN (shF R t) (33 - t) (kq R (33 - t - 1))))] [nn, nn, nn, nn, eR 2, nn, eS 2] ?_ ?_
      · exact oc (k_mv (.inl rfl) rfl) <|
        oc (k_mv (.inl rfl) rfl) <|
        oc (k_bi (.int .i64 (((33 - t) : Nat) : Int)) (.int .i64 ((1 : Nat) : Int)) (.int .i64 (((33 - t - 1) : Nat) : Int)) (sb_k1 (t := t) (by omega)) rfl rfl) <|
        oc (k_ia 2 0 ((33 - t - 1)) (.int .i64 (((33 - t - 1) : Nat) : Int)) (ix34 (i := (33 - t - 1)) (by omega)) rfl rfl) <|
        oc (k_ld 2 ((33 - t - 1)) (.int .i64 (((kq R (33 - t - 1)) : Nat) : Int)) (c := ai 34 (shF R t)) (ld_sh (t0 := 106) (R := R) (t := t) hltt) rfl rfl) <|
        oc (k_ia 2 0 ((33 - t)) (.int .i64 (((33 - t) : Nat) : Int)) (ix34 (i := (33 - t)) (by omega)) rfl rfl) <|
        oc (k_st 2 ((33 - t)) (.int .i64 (((kq R (33 - t - 1)) : Nat) : Int)) (c := ai 34 (shF R t)) (n := ai 34 (updN (shF R t) (33 - t) (kq R (33 - t - 1)))) (st_at (n := 34) (F := (shF R t)) (i := (33 - t)) (v := (kq R (33 - t - 1))) (t0 := 106) (by omega)) rfl rfl) <|
        ok_nil
      clear h; intro β a w h
      refine blk_norm ?_
      refine sym_then ?_
      refine St.r0 h [(25, .inl (.int .i64 (((33 - t) : Nat) : Int))), (26, .inl (.int .i64 (dn33 (t + 1)))), (6, .inl (.int .i64 (dn33 (t + 1))))] [eO] ?_ ?_
      · exact oc (k_m0 rfl rfl) <|
        oz (k_bi (.int .i64 (((33 - t) : Nat) : Int)) (.int .i64 ((1 : Nat) : Int)) (.int .i64 (dn33 (t + 1))) (sb_33 (by omega)) rfl rfl) <|
        oz (k_mv (.inr rfl) rfl) <|
        ok_nil
      clear h; intro β a w h
      replace h := St.sm h 2 (ai 34 (shF R (t + 1))) (c := ai 34 (updN (shF R t) (33 - t) (kq R (33 - t - 1)))) (t := 106) (shF_next hltt)
      obtain ⟨x, h⟩ := St.jn (n := 94) h [0, 2, 3, 4, 5, 6, 15, 16, 17, 18, 19, 20] [.inl (.slice aa len cap), .inr (0, pt 0), .inr (1, pt 0), .inr (2, pt 0), .inl (.int .i64 (((len - 1 - j) : Nat) : Int)), .inl (.int .i64 (dn33 (t + 1))), .inl (.agg (ck (kq oL))), .inl (.slice aa len cap), .inl (.int .i64 ((len : Nat) : Int)), .inl (.int .i64 (dnL len 0)), .inl (.int .i64 (((len - 1 - j) : Nat) : Int)), .inl (.bool true)] [(ck (fun _ => 0), 23), (ck (kq oL), 23), (ai 34 (shF R (t + 1)), 106)] (by kernel_rfl) (by kernel_rfl) (by kernel_rfl)
      exact ⟨hltt, x, _, h⟩
    · obtain rfl : 33 = t := by omega
      refine sym_seq ?_
      refine sym_seq ?_
      refine St.r0 h [(23, .inl (.int .i64 (dn33 33))), (24, .inl (.bool false))] [] ?_ ?_
      · exact oz (k_mv (.inl rfl) rfl) <|
        oz (k_bi (.int .i64 (dn33 33)) (.int .i64 ((0 : Nat) : Int)) (.bool false) (gt_i (m := dn33 33) (n := ((0 : Nat) : Int)) (decide_eq_false (by unfold dn33; omega))) rfl rfl) <|
        ok_nil
      clear h; intro β a w h
      refine sym_then ?_
      refine s_cf h ?_
      refine wp_exit ?_
      refine then_exit ?_
      refine then_exit ?_
      refine blk_exit ?_
      refine sym_then ?_
      refine sym_seq ?_
      refine St.rg h [(33, .inl (.slice aa len cap)), (34, .inl (.int .i64 (((len - 1 - j) : Nat) : Int))), (35, .inl (.pointer (some ⟨b0, off0 + (len - 1 - j), none⟩))), (36, .inl (.int .i64 (((g (len - 1 - j)) : Nat) : Int))), (37, .inr (2, pt 0))] [] [(2, ai 34 (updN (shF R 33) 0 (g (len - 1 - j))))] [nn, nn, nn, nn, nn, eS 2] ?_ ?_
      · exact oc (k_mv (.inl rfl) rfl) <|
        oc (k_mv (.inl rfl) rfl) <|
        oc (k_is (.slice aa len cap) (.int .i64 (((len - 1 - j) : Nat) : Int)) (.pointer (some ⟨b0, off0 + (len - 1 - j), none⟩)) (ix_sl hae (by omega)) rfl rfl) <|
        oc (k_lf (.pointer (some ⟨b0, off0 + (len - 1 - j), none⟩)) (.int .i64 (((g (len - 1 - j)) : Nat) : Int)) (fun w hw => ld_far (cell_later hw.below (hcell _ (by omega)))) rfl rfl) <|
        oc (k_ia 2 0 0 (.int .i64 ((0 : Nat) : Int)) (ix34 (i := 0) (by omega)) rfl rfl) <|
        oc (k_st 2 0 (.int .i64 (((g (len - 1 - j)) : Nat) : Int)) (c := ai 34 (shF R 33)) (n := ai 34 (updN (shF R 33) 0 (g (len - 1 - j)))) (st_at (n := 34) (F := (shF R 33)) (i := 0) (v := (g (len - 1 - j))) (t0 := 106) (by omega)) rfl rfl) <|
        ok_nil
      clear h; intro β a w h
      refine sym_then ?_
      refine blk_in ?_
      replace h := St.sm h 2 (ai 34 (kq (M - 0 * oL))) (c := ai 34 (updN (shF R 33) 0 (g (len - 1 - j)))) (t := 106) ((shF_end hgx).trans (by rw [hM, Nat.zero_mul, Nat.sub_zero]))
      obtain ⟨x, h⟩ := St.jn (n := 94) h [0, 2, 3, 4, 5, 6, 15, 16, 17, 18, 19, 20, 23, 24, 33, 34, 35, 36, 37] [.inl (.slice aa len cap), .inr (0, pt 0), .inr (1, pt 0), .inr (2, pt 0), .inl (.int .i64 (((len - 1 - j) : Nat) : Int)), .inl (.int .i64 (dn33 33)), .inl (.agg (ck (kq oL))), .inl (.slice aa len cap), .inl (.int .i64 ((len : Nat) : Int)), .inl (.int .i64 (dnL len 0)), .inl (.int .i64 (((len - 1 - j) : Nat) : Int)), .inl (.bool true), .inl (.int .i64 (dn33 33)), .inl (.bool false), .inl (.slice aa len cap), .inl (.int .i64 (((len - 1 - j) : Nat) : Int)), .inl (.pointer (some ⟨b0, off0 + (len - 1 - j), none⟩)), .inl (.int .i64 (((g (len - 1 - j)) : Nat) : Int)), .inr (2, pt 0)] [(ck (fun _ => 0), 23), (ck (kq oL), 23), (ai 34 (kq (M - 0 * oL)), 106)] (by kernel_rfl) (by kernel_rfl) (by kernel_rfl)
      refine loop_up (M / oL) (fun c a w => ∃ (x : Nat → SV) (β : Nat → Nat), St (wd W0) (ov (jk 94 x) ([0, 2, 3, 4, 5, 6, 15, 16, 17, 18, 19, 20, 23, 24, 33, 34, 35, 36, 37].zip [.inl (.slice aa len cap), .inr (0, pt 0), .inr (1, pt 0), .inr (2, pt 0), .inl (.int .i64 (((len - 1 - j) : Nat) : Int)), .inl (.int .i64 (dn33 33)), .inl (.agg (ck (kq oL))), .inl (.slice aa len cap), .inl (.int .i64 ((len : Nat) : Int)), .inl (.int .i64 (dnL len 0)), .inl (.int .i64 (((len - 1 - j) : Nat) : Int)), .inl (.bool true), .inl (.int .i64 (dn33 33)), .inl (.bool false), .inl (.slice aa len cap), .inl (.int .i64 (((len - 1 - j) : Nat) : Int)), .inl (.pointer (some ⟨b0, off0 + (len - 1 - j), none⟩)), .inl (.int .i64 (((g (len - 1 - j)) : Nat) : Int)), .inr (2, pt 0)])) [(ck (fun _ => 0), 23), (ck (kq oL), 23), (ai 34 (kq (M - c * oL)), 106)] β a w) ⟨x, _, h⟩ ?_
      clear h; rintro c a w hkc ⟨x, β, h⟩
      rcases Nat.lt_or_ge c (M / oL) with hltc | hgec
      · obtain ⟨X, hXe⟩ : ∃ X, X = M - c * oL := ⟨_, rfl⟩
        have hle : oL ≤ X := by rw [hXe]; exact c_le hltc
        have hX : ¬ X < oL := by omega
        have hX34 : X < 256 ^ 34 := by rw [hXe]; exact Nat.lt_of_le_of_lt (Nat.sub_le _ _) hML
        replace h := St.sm h 2 (ai 34 (kq X)) (c := ai 34 (kq (M - c * oL))) (t := 106) (by rw [hXe])
        refine blk_in ?_
        refine sym_seq ?_
        refine St.r0 h [(7, .inl (.bool false))] [] ?_ ?_
        · exact oz (k_mv (.inr rfl) rfl) <|
          ok_nil
        clear h; intro β a w h
        refine sym_then ?_
        refine seq_cut (fun a w => ∃ (x : Nat → SV) (β : Nat → Nat), St (wd W0) (ov (jk 94 x) ([0, 2, 3, 4, 5, 6, 7, 15, 16, 17, 18, 19, 20, 23, 24, 33, 34, 35, 36, 37].zip [.inl (.slice aa len cap), .inr (0, pt 0), .inr (1, pt 0), .inr (2, pt 0), .inl (.int .i64 (((len - 1 - j) : Nat) : Int)), .inl (.int .i64 (dn33 33)), .inl (.bool false), .inl (.agg (ck (kq oL))), .inl (.slice aa len cap), .inl (.int .i64 ((len : Nat) : Int)), .inl (.int .i64 (dnL len 0)), .inl (.int .i64 (((len - 1 - j) : Nat) : Int)), .inl (.bool true), .inl (.int .i64 (dn33 33)), .inl (.bool false), .inl (.slice aa len cap), .inl (.int .i64 (((len - 1 - j) : Nat) : Int)), .inl (.pointer (some ⟨b0, off0 + (len - 1 - j), none⟩)), .inl (.int .i64 (((g (len - 1 - j)) : Nat) : Int)), .inr (2, pt 0)])) [(ck (fun _ => 0), 23), (ck (kq oL), 23), (ai 34 (kq X), 106)] β a w) ?_ ?_
        · refine sym_seq ?_
          refine St.r0 h [(8, .inl (.int .i64 ((33 : Nat) : Int)))] [] ?_ ?_
          · exact oz (k_mv (.inr rfl) rfl) <|
            ok_nil
          clear h; intro β a w h
          refine sym_then ?_
          refine blk_in ?_
          replace h := St.ss h 8 (.int .i64 (dn33 0)) (v := .int .i64 ((33 : Nat) : Int)) rfl
          obtain ⟨x, h⟩ := St.jn (n := 94) h [0, 2, 3, 4, 5, 6, 7, 8, 15, 16, 17, 18, 19, 20, 23, 24, 33, 34, 35, 36, 37] [.inl (.slice aa len cap), .inr (0, pt 0), .inr (1, pt 0), .inr (2, pt 0), .inl (.int .i64 (((len - 1 - j) : Nat) : Int)), .inl (.int .i64 (dn33 33)), .inl (.bool false), .inl (.int .i64 (dn33 0)), .inl (.agg (ck (kq oL))), .inl (.slice aa len cap), .inl (.int .i64 ((len : Nat) : Int)), .inl (.int .i64 (dnL len 0)), .inl (.int .i64 (((len - 1 - j) : Nat) : Int)), .inl (.bool true), .inl (.int .i64 (dn33 33)), .inl (.bool false), .inl (.slice aa len cap), .inl (.int .i64 (((len - 1 - j) : Nat) : Int)), .inl (.pointer (some ⟨b0, off0 + (len - 1 - j), none⟩)), .inl (.int .i64 (((g (len - 1 - j)) : Nat) : Int)), .inr (2, pt 0)] [(ck (fun _ => 0), 23), (ck (kq oL), 23), (ai 34 (kq X), 106)] (by kernel_rfl) (by kernel_rfl) (by kernel_rfl)
          refine loop_up 34 (fun s a w => (X / 256 ^ (34 - s) = oL / 256 ^ (34 - s)) ∧ ∃ (x : Nat → SV) (β : Nat → Nat), St (wd W0) (ov (jk 94 x) ([0, 2, 3, 4, 5, 6, 7, 8, 15, 16, 17, 18, 19, 20, 23, 24, 33, 34, 35, 36, 37].zip [.inl (.slice aa len cap), .inr (0, pt 0), .inr (1, pt 0), .inr (2, pt 0), .inl (.int .i64 (((len - 1 - j) : Nat) : Int)), .inl (.int .i64 (dn33 33)), .inl (.bool false), .inl (.int .i64 (dn33 s)), .inl (.agg (ck (kq oL))), .inl (.slice aa len cap), .inl (.int .i64 ((len : Nat) : Int)), .inl (.int .i64 (dnL len 0)), .inl (.int .i64 (((len - 1 - j) : Nat) : Int)), .inl (.bool true), .inl (.int .i64 (dn33 33)), .inl (.bool false), .inl (.slice aa len cap), .inl (.int .i64 (((len - 1 - j) : Nat) : Int)), .inl (.pointer (some ⟨b0, off0 + (len - 1 - j), none⟩)), .inl (.int .i64 (((g (len - 1 - j)) : Nat) : Int)), .inr (2, pt 0)])) [(ck (fun _ => 0), 23), (ck (kq oL), 23), (ai 34 (kq X), 106)] β a w) ⟨be0 hX34, x, _, h⟩ ?_
          clear h; rintro s a w hks ⟨hinvs, x, β, h⟩
          rcases Nat.lt_or_ge s 34 with hlts | hges
          · by_cases hk32 : 33 - s < 32; all_goals by_cases cd2 : kq X (33 - s) = kq oL (33 - s)
            · replace h := St.ss h 8 (.int .i64 (((33 - s) : Nat) : Int)) (v := .int .i64 (dn33 s)) (dn33_v hlts)
              refine sym_seq ?_
              refine sym_seq ?_
              refine St.r0 h [(38, .inl (.int .i64 (((33 - s) : Nat) : Int))), (39, .inl (.bool true))] [] ?_ ?_
              · exact oz (k_mv (.inl rfl) rfl) <|
                oz (k_bi (.int .i64 (((33 - s) : Nat) : Int)) (.int .i64 ((0 : Nat) : Int)) (.bool true) (ge_i (m := (((33 - s) : Nat) : Int)) (n := ((0 : Nat) : Int)) (decide_eq_true (by omega))) rfl rfl) <|
                ok_nil
              clear h; intro β a w h
              refine sym_then ?_
              refine s_ct h ?_
              refine wp_skip ?_
              refine sym_then ?_
              refine sym_seq ?_
              refine blk_in ?_
              refine sym_seq ?_
              refine St.r0 h [(9, .inl (.int .i64 ((0 : Nat) : Int)))] [] ?_ ?_
              · exact oz (k_mv (.inr rfl) rfl) <|
                ok_nil
              clear h; intro β a w h
              refine sym_then ?_
              refine sym_seq ?_
              refine sym_seq ?_
              refine St.r0 h [(42, .inl (.int .i64 (((33 - s) : Nat) : Int))), (43, .inl (.bool true))] [] ?_ ?_
              · exact oz (k_mv (.inl rfl) rfl) <|
                oz (k_bi (.int .i64 (((33 - s) : Nat) : Int)) (.int .i64 ((32 : Nat) : Int)) (.bool true) (lt_i (m := (((33 - s) : Nat) : Int)) (n := ((32 : Nat) : Int)) (decide_eq_true (by omega))) rfl rfl) <|
                ok_nil
              clear h; intro β a w h
              refine sym_then ?_
              refine s_ct h ?_
              refine St.r0 h [(44, .inl (.int .i64 (((33 - s) : Nat) : Int))), (45, .inr (1, pt (33 - s))), (46, .inl (.int .u8 (((kq oL (33 - s)) : Nat) : Int))), (47, .inl (.int .i64 (((kq oL (33 - s)) : Nat) : Int))), (9, .inl (.int .i64 (((kq oL (33 - s)) : Nat) : Int)))] [nn, nn, eR 1] ?_ ?_
              · exact oc (k_mv (.inl rfl) rfl) <|
                oc (k_ia 1 0 ((33 - s)) (.int .i64 (((33 - s) : Nat) : Int)) (ixK (i := (33 - s)) (by omega)) rfl rfl) <|
                oc (k_ld 1 ((33 - s)) (.int .u8 (((kq oL (33 - s)) : Nat) : Int)) (c := ck (kq oL)) (ld_k (F := (kq oL)) (i := (33 - s)) (t0 := 23) (by omega)) rfl rfl) <|
                oz (k_co (.int .u8 (((kq oL (33 - s)) : Nat) : Int)) (.int .i64 (((kq oL (33 - s)) : Nat) : Int)) (cv_bi (n := (kq oL (33 - s))) (kq_lt _ _)) rfl rfl) <|
                oz (k_mv (.inr rfl) rfl) <|
                ok_nil
              clear h; intro β a w h
              refine sym_then ?_
              refine sym_seq ?_
              refine St.r0 h [(48, .inl (.int .i64 (((33 - s) : Nat) : Int))), (49, .inr (2, pt (33 - s))), (50, .inl (.int .i64 (((kq X (33 - s)) : Nat) : Int))), (51, .inl (.int .i64 (((kq oL (33 - s)) : Nat) : Int))), (52, .inl (.bool false))] [nn, nn, eR 2] ?_ ?_
              · exact oc (k_mv (.inl rfl) rfl) <|
                oc (k_ia 2 0 ((33 - s)) (.int .i64 (((33 - s) : Nat) : Int)) (ix34 (i := (33 - s)) (by omega)) rfl rfl) <|
                oc (k_ld 2 ((33 - s)) (.int .i64 (((kq X (33 - s)) : Nat) : Int)) (c := ai 34 (kq X)) (ld_at (n := 34) (F := (kq X)) (i := (33 - s)) (t0 := 106) (by omega)) rfl rfl) <|
                oz (k_mv (.inl rfl) rfl) <|
                oz (k_bi (.int .i64 (((kq X (33 - s)) : Nat) : Int)) (.int .i64 (((kq oL (33 - s)) : Nat) : Int)) (.bool false) (ne_i (m := (((kq X (33 - s)) : Nat) : Int)) (n := (((kq oL (33 - s)) : Nat) : Int)) (decide_eq_false (by omega))) rfl rfl) <|
                ok_nil
              clear h; intro β a w h
              refine sym_then ?_
              refine s_cf h ?_
              refine wp_skip ?_
              refine blk_norm ?_
              refine sym_then ?_
              refine St.r0 h [(40, .inl (.int .i64 (((33 - s) : Nat) : Int))), (41, .inl (.int .i64 (dn33 (s + 1)))), (8, .inl (.int .i64 (dn33 (s + 1))))] [eO] ?_ ?_
              · exact oc (k_m0 rfl rfl) <|
                oz (k_bi (.int .i64 (((33 - s) : Nat) : Int)) (.int .i64 ((1 : Nat) : Int)) (.int .i64 (dn33 (s + 1))) (sb_33 hlts) rfl rfl) <|
                oz (k_mv (.inr rfl) rfl) <|
                ok_nil
              clear h; intro β a w h
              obtain ⟨x, h⟩ := St.jn (n := 94) h [0, 2, 3, 4, 5, 6, 7, 8, 15, 16, 17, 18, 19, 20, 23, 24, 33, 34, 35, 36, 37] [.inl (.slice aa len cap), .inr (0, pt 0), .inr (1, pt 0), .inr (2, pt 0), .inl (.int .i64 (((len - 1 - j) : Nat) : Int)), .inl (.int .i64 (dn33 33)), .inl (.bool false), .inl (.int .i64 (dn33 (s + 1))), .inl (.agg (ck (kq oL))), .inl (.slice aa len cap), .inl (.int .i64 ((len : Nat) : Int)), .inl (.int .i64 (dnL len 0)), .inl (.int .i64 (((len - 1 - j) : Nat) : Int)), .inl (.bool true), .inl (.int .i64 (dn33 33)), .inl (.bool false), .inl (.slice aa len cap), .inl (.int .i64 (((len - 1 - j) : Nat) : Int)), .inl (.pointer (some ⟨b0, off0 + (len - 1 - j), none⟩)), .inl (.int .i64 (((g (len - 1 - j)) : Nat) : Int)), .inr (2, pt 0)] [(ck (fun _ => 0), 23), (ck (kq oL), 23), (ai 34 (kq X), 106)] (by kernel_rfl) (by kernel_rfl) (by kernel_rfl)
              exact ⟨hlts, be1 hinvs hlts cd2, x, _, h⟩
            · replace h := St.ss h 8 (.int .i64 (((33 - s) : Nat) : Int)) (v := .int .i64 (dn33 s)) (dn33_v hlts)
              have cd := cd2
              refine sym_seq ?_
              refine sym_seq ?_
              refine St.r0 h [(38, .inl (.int .i64 (((33 - s) : Nat) : Int))), (39, .inl (.bool true))] [] ?_ ?_
              · exact oz (k_mv (.inl rfl) rfl) <|
                oz (k_bi (.int .i64 (((33 - s) : Nat) : Int)) (.int .i64 ((0 : Nat) : Int)) (.bool true) (ge_i (m := (((33 - s) : Nat) : Int)) (n := ((0 : Nat) : Int)) (decide_eq_true (by omega))) rfl rfl) <|
                ok_nil
              clear h; intro β a w h
              refine sym_then ?_
              refine s_ct h ?_
              refine wp_skip ?_
              refine sym_then ?_
              refine sym_seq ?_
              refine blk_in ?_
              refine sym_seq ?_
              refine St.r0 h [(9, .inl (.int .i64 ((0 : Nat) : Int)))] [] ?_ ?_
              · exact oz (k_mv (.inr rfl) rfl) <|
                ok_nil
              clear h; intro β a w h
              refine sym_then ?_
              refine sym_seq ?_
              refine sym_seq ?_
              refine St.r0 h [(42, .inl (.int .i64 (((33 - s) : Nat) : Int))), (43, .inl (.bool true))] [] ?_ ?_
              · exact oz (k_mv (.inl rfl) rfl) <|
                oz (k_bi (.int .i64 (((33 - s) : Nat) : Int)) (.int .i64 ((32 : Nat) : Int)) (.bool true) (lt_i (m := (((33 - s) : Nat) : Int)) (n := ((32 : Nat) : Int)) (decide_eq_true (by omega))) rfl rfl) <|
                ok_nil
              clear h; intro β a w h
              refine sym_then ?_
              refine s_ct h ?_
              refine St.r0 h [(44, .inl (.int .i64 (((33 - s) : Nat) : Int))), (45, .inr (1, pt (33 - s))), (46, .inl (.int .u8 (((kq oL (33 - s)) : Nat) : Int))), (47, .inl (.int .i64 (((kq oL (33 - s)) : Nat) : Int))), (9, .inl (.int .i64 (((kq oL (33 - s)) : Nat) : Int)))] [nn, nn, eR 1] ?_ ?_
              · exact oc (k_mv (.inl rfl) rfl) <|
                oc (k_ia 1 0 ((33 - s)) (.int .i64 (((33 - s) : Nat) : Int)) (ixK (i := (33 - s)) (by omega)) rfl rfl) <|
                oc (k_ld 1 ((33 - s)) (.int .u8 (((kq oL (33 - s)) : Nat) : Int)) (c := ck (kq oL)) (ld_k (F := (kq oL)) (i := (33 - s)) (t0 := 23) (by omega)) rfl rfl) <|
                oz (k_co (.int .u8 (((kq oL (33 - s)) : Nat) : Int)) (.int .i64 (((kq oL (33 - s)) : Nat) : Int)) (cv_bi (n := (kq oL (33 - s))) (kq_lt _ _)) rfl rfl) <|
                oz (k_mv (.inr rfl) rfl) <|
                ok_nil
              clear h; intro β a w h
              refine sym_then ?_
              refine sym_seq ?_
              refine St.r0 h [(48, .inl (.int .i64 (((33 - s) : Nat) : Int))), (49, .inr (2, pt (33 - s))), (50, .inl (.int .i64 (((kq X (33 - s)) : Nat) : Int))), (51, .inl (.int .i64 (((kq oL (33 - s)) : Nat) : Int))), (52, .inl (.bool true))] [nn, nn, eR 2] ?_ ?_
              · exact oc (k_mv (.inl rfl) rfl) <|
                oc (k_ia 2 0 ((33 - s)) (.int .i64 (((33 - s) : Nat) : Int)) (ix34 (i := (33 - s)) (by omega)) rfl rfl) <|
                oc (k_ld 2 ((33 - s)) (.int .i64 (((kq X (33 - s)) : Nat) : Int)) (c := ai 34 (kq X)) (ld_at (n := 34) (F := (kq X)) (i := (33 - s)) (t0 := 106) (by omega)) rfl rfl) <|
                oz (k_mv (.inl rfl) rfl) <|
                oz (k_bi (.int .i64 (((kq X (33 - s)) : Nat) : Int)) (.int .i64 (((kq oL (33 - s)) : Nat) : Int)) (.bool true) (ne_i (m := (((kq X (33 - s)) : Nat) : Int)) (n := (((kq oL (33 - s)) : Nat) : Int)) (decide_eq_true (by omega))) rfl rfl) <|
                ok_nil
              clear h; intro β a w h
              refine sym_then ?_
              refine s_ct h ?_
              refine sym_seq ?_
              refine St.r0 h [(53, .inl (.int .i64 (((33 - s) : Nat) : Int))), (54, .inr (2, pt (33 - s))), (55, .inl (.int .i64 (((kq X (33 - s)) : Nat) : Int))), (56, .inl (.int .i64 (((kq oL (33 - s)) : Nat) : Int))), (57, .inl (.bool false))] [nn, nn, eR 2] ?_ ?_
              · exact oc (k_mv (.inl rfl) rfl) <|
                oc (k_ia 2 0 ((33 - s)) (.int .i64 (((33 - s) : Nat) : Int)) (ix34 (i := (33 - s)) (by omega)) rfl rfl) <|
                oc (k_ld 2 ((33 - s)) (.int .i64 (((kq X (33 - s)) : Nat) : Int)) (c := ai 34 (kq X)) (ld_at (n := 34) (F := (kq X)) (i := (33 - s)) (t0 := 106) (by omega)) rfl rfl) <|
                oz (k_mv (.inl rfl) rfl) <|
                oz (k_bi (.int .i64 (((kq X (33 - s)) : Nat) : Int)) (.int .i64 (((kq oL (33 - s)) : Nat) : Int)) (.bool false) (lt_i (m := (((kq X (33 - s)) : Nat) : Int)) (n := (((kq oL (33 - s)) : Nat) : Int)) (decide_eq_false (fun hh => hX ((be2 hinvs hlts cd).2 (by omega))))) rfl rfl) <|
                oz (k_mv (.inr rfl) rfl) <|
                ok_nil
              clear h; intro β a w h
              refine sym_then ?_
              refine wp_exit ?_
              refine blk_pass (by rfl) ?_
              refine then_exit ?_
              refine then_exit ?_
              refine blk_exit ?_
              obtain ⟨x, h⟩ := St.jn (n := 94) h [0, 2, 3, 4, 5, 6, 7, 15, 16, 17, 18, 19, 20, 23, 24, 33, 34, 35, 36, 37] [.inl (.slice aa len cap), .inr (0, pt 0), .inr (1, pt 0), .inr (2, pt 0), .inl (.int .i64 (((len - 1 - j) : Nat) : Int)), .inl (.int .i64 (dn33 33)), .inl (.bool false), .inl (.agg (ck (kq oL))), .inl (.slice aa len cap), .inl (.int .i64 ((len : Nat) : Int)), .inl (.int .i64 (dnL len 0)), .inl (.int .i64 (((len - 1 - j) : Nat) : Int)), .inl (.bool true), .inl (.int .i64 (dn33 33)), .inl (.bool false), .inl (.slice aa len cap), .inl (.int .i64 (((len - 1 - j) : Nat) : Int)), .inl (.pointer (some ⟨b0, off0 + (len - 1 - j), none⟩)), .inl (.int .i64 (((g (len - 1 - j)) : Nat) : Int)), .inr (2, pt 0)] [(ck (fun _ => 0), 23), (ck (kq oL), 23), (ai 34 (kq X), 106)] (by kernel_rfl) (by kernel_rfl) (by kernel_rfl)
              exact ⟨rfl, x, _, h⟩
            · replace h := St.ss h 8 (.int .i64 (((33 - s) : Nat) : Int)) (v := .int .i64 (dn33 s)) (dn33_v hlts)
              have k0 := kq_oL (k := 33 - s) (by omega)
              refine sym_seq ?_
              refine sym_seq ?_
              refine St.r0 h [(38, .inl (.int .i64 (((33 - s) : Nat) : Int))), (39, .inl (.bool true))] [] ?_ ?_
              · exact oz (k_mv (.inl rfl) rfl) <|
                oz (k_bi (.int .i64 (((33 - s) : Nat) : Int)) (.int .i64 ((0 : Nat) : Int)) (.bool true) (ge_i (m := (((33 - s) : Nat) : Int)) (n := ((0 : Nat) : Int)) (decide_eq_true (by omega))) rfl rfl) <|
                ok_nil
              clear h; intro β a w h
              refine sym_then ?_
              refine s_ct h ?_
              refine wp_skip ?_
              refine sym_then ?_
              refine sym_seq ?_
              refine blk_in ?_
              refine sym_seq ?_
              refine St.r0 h [(9, .inl (.int .i64 ((0 : Nat) : Int)))] [] ?_ ?_
              · exact oz (k_mv (.inr rfl) rfl) <|
                ok_nil
              clear h; intro β a w h
              refine sym_then ?_
              refine sym_seq ?_
              refine sym_seq ?_
              refine St.r0 h [(42, .inl (.int .i64 (((33 - s) : Nat) : Int))), (43, .inl (.bool false))] [] ?_ ?_
              · exact oz (k_mv (.inl rfl) rfl) <|
                oz (k_bi (.int .i64 (((33 - s) : Nat) : Int)) (.int .i64 ((32 : Nat) : Int)) (.bool false) (lt_i (m := (((33 - s) : Nat) : Int)) (n := ((32 : Nat) : Int)) (decide_eq_false (by omega))) rfl rfl) <|
                ok_nil
              clear h; intro β a w h
              refine sym_then ?_
              refine s_cf h ?_
              refine wp_skip ?_
              refine sym_then ?_
              refine sym_seq ?_
              refine St.r0 h [(48, .inl (.int .i64 (((33 - s) : Nat) : Int))), (49, .inr (2, pt (33 - s))), (50, .inl (.int .i64 (((kq X (33 - s)) : Nat) : Int))), (51, .inl (.int .i64 ((0 : Nat) : Int))), (52, .inl (.bool false))] [nn, nn, eR 2] ?_ ?_
              · exact oc (k_mv (.inl rfl) rfl) <|
                oc (k_ia 2 0 ((33 - s)) (.int .i64 (((33 - s) : Nat) : Int)) (ix34 (i := (33 - s)) (by omega)) rfl rfl) <|
                oc (k_ld 2 ((33 - s)) (.int .i64 (((kq X (33 - s)) : Nat) : Int)) (c := ai 34 (kq X)) (ld_at (n := 34) (F := (kq X)) (i := (33 - s)) (t0 := 106) (by omega)) rfl rfl) <|
                oz (k_mv (.inl rfl) rfl) <|
                oz (k_bi (.int .i64 (((kq X (33 - s)) : Nat) : Int)) (.int .i64 ((0 : Nat) : Int)) (.bool false) (ne_i (m := (((kq X (33 - s)) : Nat) : Int)) (n := ((0 : Nat) : Int)) (decide_eq_false (by omega))) rfl rfl) <|
                ok_nil
              clear h; intro β a w h
              refine sym_then ?_
              refine s_cf h ?_
              refine wp_skip ?_
              refine blk_norm ?_
              refine sym_then ?_
              refine St.r0 h [(40, .inl (.int .i64 (((33 - s) : Nat) : Int))), (41, .inl (.int .i64 (dn33 (s + 1)))), (8, .inl (.int .i64 (dn33 (s + 1))))] [eO] ?_ ?_
              · exact oc (k_m0 rfl rfl) <|
                oz (k_bi (.int .i64 (((33 - s) : Nat) : Int)) (.int .i64 ((1 : Nat) : Int)) (.int .i64 (dn33 (s + 1))) (sb_33 hlts) rfl rfl) <|
                oz (k_mv (.inr rfl) rfl) <|
                ok_nil
              clear h; intro β a w h
              obtain ⟨x, h⟩ := St.jn (n := 94) h [0, 2, 3, 4, 5, 6, 7, 8, 15, 16, 17, 18, 19, 20, 23, 24, 33, 34, 35, 36, 37] [.inl (.slice aa len cap), .inr (0, pt 0), .inr (1, pt 0), .inr (2, pt 0), .inl (.int .i64 (((len - 1 - j) : Nat) : Int)), .inl (.int .i64 (dn33 33)), .inl (.bool false), .inl (.int .i64 (dn33 (s + 1))), .inl (.agg (ck (kq oL))), .inl (.slice aa len cap), .inl (.int .i64 ((len : Nat) : Int)), .inl (.int .i64 (dnL len 0)), .inl (.int .i64 (((len - 1 - j) : Nat) : Int)), .inl (.bool true), .inl (.int .i64 (dn33 33)), .inl (.bool false), .inl (.slice aa len cap), .inl (.int .i64 (((len - 1 - j) : Nat) : Int)), .inl (.pointer (some ⟨b0, off0 + (len - 1 - j), none⟩)), .inl (.int .i64 (((g (len - 1 - j)) : Nat) : Int)), .inr (2, pt 0)] [(ck (fun _ => 0), 23), (ck (kq oL), 23), (ai 34 (kq X), 106)] (by kernel_rfl) (by kernel_rfl) (by kernel_rfl)
              exact ⟨hlts, be1 hinvs hlts cd2, x, _, h⟩
            · replace h := St.ss h 8 (.int .i64 (((33 - s) : Nat) : Int)) (v := .int .i64 (dn33 s)) (dn33_v hlts)
              have k0 := kq_oL (k := 33 - s) (by omega)
              have cd := cd2
              refine sym_seq ?_
              refine sym_seq ?_
              refine St.r0 h [(38, .inl (.int .i64 (((33 - s) : Nat) : Int))), (39, .inl (.bool true))] [] ?_ ?_
              · exact oz (k_mv (.inl rfl) rfl) <|
                oz (k_bi (.int .i64 (((33 - s) : Nat) : Int)) (.int .i64 ((0 : Nat) : Int)) (.bool true) (ge_i (m := (((33 - s) : Nat) : Int)) (n := ((0 : Nat) : Int)) (decide_eq_true (by omega))) rfl rfl) <|
                ok_nil
              clear h; intro β a w h
              refine sym_then ?_
              refine s_ct h ?_
              refine wp_skip ?_
              refine sym_then ?_
              refine sym_seq ?_
              refine blk_in ?_
              refine sym_seq ?_
              refine St.r0 h [(9, .inl (.int .i64 ((0 : Nat) : Int)))] [] ?_ ?_
              · exact oz (k_mv (.inr rfl) rfl) <|
                ok_nil
              clear h; intro β a w h
              refine sym_then ?_
              refine sym_seq ?_
              refine sym_seq ?_
              refine St.r0 h [(42, .inl (.int .i64 (((33 - s) : Nat) : Int))), (43, .inl (.bool false))] [] ?_ ?_
              · exact oz (k_mv (.inl rfl) rfl) <|
                oz (k_bi (.int .i64 (((33 - s) : Nat) : Int)) (.int .i64 ((32 : Nat) : Int)) (.bool false) (lt_i (m := (((33 - s) : Nat) : Int)) (n := ((32 : Nat) : Int)) (decide_eq_false (by omega))) rfl rfl) <|
                ok_nil
              clear h; intro β a w h
              refine sym_then ?_
              refine s_cf h ?_
              refine wp_skip ?_
              refine sym_then ?_
              refine sym_seq ?_
              refine St.r0 h [(48, .inl (.int .i64 (((33 - s) : Nat) : Int))), (49, .inr (2, pt (33 - s))), (50, .inl (.int .i64 (((kq X (33 - s)) : Nat) : Int))), (51, .inl (.int .i64 ((0 : Nat) : Int))), (52, .inl (.bool true))] [nn, nn, eR 2] ?_ ?_
              · exact oc (k_mv (.inl rfl) rfl) <|
                oc (k_ia 2 0 ((33 - s)) (.int .i64 (((33 - s) : Nat) : Int)) (ix34 (i := (33 - s)) (by omega)) rfl rfl) <|
                oc (k_ld 2 ((33 - s)) (.int .i64 (((kq X (33 - s)) : Nat) : Int)) (c := ai 34 (kq X)) (ld_at (n := 34) (F := (kq X)) (i := (33 - s)) (t0 := 106) (by omega)) rfl rfl) <|
                oz (k_mv (.inl rfl) rfl) <|
                oz (k_bi (.int .i64 (((kq X (33 - s)) : Nat) : Int)) (.int .i64 ((0 : Nat) : Int)) (.bool true) (ne_i (m := (((kq X (33 - s)) : Nat) : Int)) (n := ((0 : Nat) : Int)) (decide_eq_true (by omega))) rfl rfl) <|
                ok_nil
              clear h; intro β a w h
              refine sym_then ?_
              refine s_ct h ?_
              refine sym_seq ?_
              refine St.r0 h [(53, .inl (.int .i64 (((33 - s) : Nat) : Int))), (54, .inr (2, pt (33 - s))), (55, .inl (.int .i64 (((kq X (33 - s)) : Nat) : Int))), (56, .inl (.int .i64 ((0 : Nat) : Int))), (57, .inl (.bool false))] [nn, nn, eR 2] ?_ ?_
              · exact oc (k_mv (.inl rfl) rfl) <|
                oc (k_ia 2 0 ((33 - s)) (.int .i64 (((33 - s) : Nat) : Int)) (ix34 (i := (33 - s)) (by omega)) rfl rfl) <|
                oc (k_ld 2 ((33 - s)) (.int .i64 (((kq X (33 - s)) : Nat) : Int)) (c := ai 34 (kq X)) (ld_at (n := 34) (F := (kq X)) (i := (33 - s)) (t0 := 106) (by omega)) rfl rfl) <|
                oz (k_mv (.inl rfl) rfl) <|
                oz (k_bi (.int .i64 (((kq X (33 - s)) : Nat) : Int)) (.int .i64 ((0 : Nat) : Int)) (.bool false) (lt_i (m := (((kq X (33 - s)) : Nat) : Int)) (n := ((0 : Nat) : Int)) (decide_eq_false (fun hh => hX ((be2 hinvs hlts cd).2 (by omega))))) rfl rfl) <|
                oz (k_mv (.inr rfl) rfl) <|
                ok_nil
              clear h; intro β a w h
              refine sym_then ?_
              refine wp_exit ?_
              refine blk_pass (by rfl) ?_
              refine then_exit ?_
              refine then_exit ?_
              refine blk_exit ?_
              obtain ⟨x, h⟩ := St.jn (n := 94) h [0, 2, 3, 4, 5, 6, 7, 15, 16, 17, 18, 19, 20, 23, 24, 33, 34, 35, 36, 37] [.inl (.slice aa len cap), .inr (0, pt 0), .inr (1, pt 0), .inr (2, pt 0), .inl (.int .i64 (((len - 1 - j) : Nat) : Int)), .inl (.int .i64 (dn33 33)), .inl (.bool false), .inl (.agg (ck (kq oL))), .inl (.slice aa len cap), .inl (.int .i64 ((len : Nat) : Int)), .inl (.int .i64 (dnL len 0)), .inl (.int .i64 (((len - 1 - j) : Nat) : Int)), .inl (.bool true), .inl (.int .i64 (dn33 33)), .inl (.bool false), .inl (.slice aa len cap), .inl (.int .i64 (((len - 1 - j) : Nat) : Int)), .inl (.pointer (some ⟨b0, off0 + (len - 1 - j), none⟩)), .inl (.int .i64 (((g (len - 1 - j)) : Nat) : Int)), .inr (2, pt 0)] [(ck (fun _ => 0), 23), (ck (kq oL), 23), (ai 34 (kq X), 106)] (by kernel_rfl) (by kernel_rfl) (by kernel_rfl)
              exact ⟨rfl, x, _, h⟩
          · obtain rfl : 34 = s := by omega
            refine sym_seq ?_
            refine sym_seq ?_
            refine St.r0 h [(38, .inl (.int .i64 (dn33 34))), (39, .inl (.bool false))] [] ?_ ?_
            · exact oz (k_mv (.inl rfl) rfl) <|
              oz (k_bi (.int .i64 (dn33 34)) (.int .i64 ((0 : Nat) : Int)) (.bool false) (ge_i (m := dn33 34) (n := ((0 : Nat) : Int)) (decide_eq_false (by unfold dn33; omega))) rfl rfl) <|
              ok_nil
            clear h; intro β a w h
            refine sym_then ?_
            refine s_cf h ?_
            refine wp_exit ?_
            refine then_exit ?_
            refine then_exit ?_
            refine blk_exit ?_
            obtain ⟨x, h⟩ := St.jn (n := 94) h [0, 2, 3, 4, 5, 6, 7, 15, 16, 17, 18, 19, 20, 23, 24, 33, 34, 35, 36, 37] [.inl (.slice aa len cap), .inr (0, pt 0), .inr (1, pt 0), .inr (2, pt 0), .inl (.int .i64 (((len - 1 - j) : Nat) : Int)), .inl (.int .i64 (dn33 33)), .inl (.bool false), .inl (.agg (ck (kq oL))), .inl (.slice aa len cap), .inl (.int .i64 ((len : Nat) : Int)), .inl (.int .i64 (dnL len 0)), .inl (.int .i64 (((len - 1 - j) : Nat) : Int)), .inl (.bool true), .inl (.int .i64 (dn33 33)), .inl (.bool false), .inl (.slice aa len cap), .inl (.int .i64 (((len - 1 - j) : Nat) : Int)), .inl (.pointer (some ⟨b0, off0 + (len - 1 - j), none⟩)), .inl (.int .i64 (((g (len - 1 - j)) : Nat) : Int)), .inr (2, pt 0)] [(ck (fun _ => 0), 23), (ck (kq oL), 23), (ai 34 (kq X), 106)] (by kernel_rfl) (by kernel_rfl) (by kernel_rfl)
            exact ⟨rfl, x, _, h⟩
        clear h; rintro a w ⟨x, β, h⟩
        refine sym_seq ?_
        refine sym_seq ?_
        refine St.r0 h [(58, .inl (.bool false))] [] ?_ ?_
        · exact oz (k_mv (.inl rfl) rfl) <|
          ok_nil
        clear h; intro β a w h
        refine sym_then ?_
        refine s_cf h ?_
        refine wp_skip ?_
        refine sym_then ?_
        refine sym_seq ?_
        refine St.r0 h [(10, .inl (.int .i64 ((0 : Nat) : Int)))] [] ?_ ?_
        · exact oz (k_mv (.inr rfl) rfl) <|
          ok_nil
        clear h; intro β a w h
        refine sym_then ?_
        refine sym_seq ?_
        refine St.r0 h [(11, .inl (.int .i64 ((0 : Nat) : Int)))] [] ?_ ?_
        · exact oz (k_mv (.inr rfl) rfl) <|
          ok_nil
        clear h; intro β a w h
        refine sym_then ?_
        refine blk_in ?_
        replace h := St.sm h 2 (ai 34 (suFq X oL 0)) (c := ai 34 (kq X)) (t := 106) (suF_zeroq X oL)
        replace h := St.ss h 10 (.int .i64 (((boq X oL 0) : Nat) : Int)) (v := .int .i64 ((0 : Nat) : Int)) (by rw [bo_zeroq])
        obtain ⟨x, h⟩ := St.jn (n := 94) h [0, 2, 3, 4, 5, 6, 7, 10, 11, 15, 16, 17, 18, 19, 20, 23, 24, 33, 34, 35, 36, 37, 58] [.inl (.slice aa len cap), .inr (0, pt 0), .inr (1, pt 0), .inr (2, pt 0), .inl (.int .i64 (((len - 1 - j) : Nat) : Int)), .inl (.int .i64 (dn33 33)), .inl (.bool false), .inl (.int .i64 (((boq X oL 0) : Nat) : Int)), .inl (.int .i64 ((0 : Nat) : Int)), .inl (.agg (ck (kq oL))), .inl (.slice aa len cap), .inl (.int .i64 ((len : Nat) : Int)), .inl (.int .i64 (dnL len 0)), .inl (.int .i64 (((len - 1 - j) : Nat) : Int)), .inl (.bool true), .inl (.int .i64 (dn33 33)), .inl (.bool false), .inl (.slice aa len cap), .inl (.int .i64 (((len - 1 - j) : Nat) : Int)), .inl (.pointer (some ⟨b0, off0 + (len - 1 - j), none⟩)), .inl (.int .i64 (((g (len - 1 - j)) : Nat) : Int)), .inr (2, pt 0), .inl (.bool false)] [(ck (fun _ => 0), 23), (ck (kq oL), 23), (ai 34 (suFq X oL 0), 106)] (by kernel_rfl) (by kernel_rfl) (by kernel_rfl)
        refine loop_up 34 (fun k a w => ∃ (x : Nat → SV) (β : Nat → Nat), St (wd W0) (ov (jk 94 x) ([0, 2, 3, 4, 5, 6, 7, 10, 11, 15, 16, 17, 18, 19, 20, 23, 24, 33, 34, 35, 36, 37, 58].zip [.inl (.slice aa len cap), .inr (0, pt 0), .inr (1, pt 0), .inr (2, pt 0), .inl (.int .i64 (((len - 1 - j) : Nat) : Int)), .inl (.int .i64 (dn33 33)), .inl (.bool false), .inl (.int .i64 (((boq X oL k) : Nat) : Int)), .inl (.int .i64 ((k : Nat) : Int)), .inl (.agg (ck (kq oL))), .inl (.slice aa len cap), .inl (.int .i64 ((len : Nat) : Int)), .inl (.int .i64 (dnL len 0)), .inl (.int .i64 (((len - 1 - j) : Nat) : Int)), .inl (.bool true), .inl (.int .i64 (dn33 33)), .inl (.bool false), .inl (.slice aa len cap), .inl (.int .i64 (((len - 1 - j) : Nat) : Int)), .inl (.pointer (some ⟨b0, off0 + (len - 1 - j), none⟩)), .inl (.int .i64 (((g (len - 1 - j)) : Nat) : Int)), .inr (2, pt 0), .inl (.bool false)])) [(ck (fun _ => 0), 23), (ck (kq oL), 23), (ai 34 (suFq X oL k), 106)] β a w) ⟨x, _, h⟩ ?_
        clear h; rintro k a w hkk ⟨x, β, h⟩
        rcases Nat.lt_or_ge k 34 with hltk | hgek
        · by_cases hk32 : k < 32; all_goals (rcases Nat.lt_or_ge (kq X k) (kq oL k + boq X oL k) with hbn | hbn; rotate_left)
          · have f1 := kq_lt X k
            have f2 := kq_lt oL k
            have f3 := kq_lt (X - oL) k
            have f4 := bo_leq X oL k
            have f5 := sub_noq hle hbn
            refine sym_seq ?_
            refine sym_seq ?_
            refine St.r0 h [(59, .inl (.int .i64 ((k : Nat) : Int))), (60, .inl (.bool true))] [] ?_ ?_
            · exact oz (k_mv (.inl rfl) rfl) <|
              oz (k_bi (.int .i64 ((k : Nat) : Int)) (.int .i64 ((34 : Nat) : Int)) (.bool true) (lt_i (m := ((k : Nat) : Int)) (n := ((34 : Nat) : Int)) (decide_eq_true (by omega))) rfl rfl) <|
              ok_nil
            clear h; intro β a w h
            refine sym_then ?_
            refine s_ct h ?_
            refine wp_skip ?_
            refine sym_then ?_
            refine sym_seq ?_
            refine blk_in ?_
            refine sym_seq ?_
            refine St.r0 h [(63, .inl (.int .i64 ((k : Nat) : Int))), (64, .inr (2, pt k)), (65, .inl (.int .i64 (((kq X k) : Nat) : Int))), (66, .inl (.int .i64 (((boq X oL k) : Nat) : Int))), (67, .inl (.int .i64 (((kq X k : Nat) : Int) - ((boq X oL k : Nat) : Int)))), (12, .inl (.int .i64 (((kq X k : Nat) : Int) - ((boq X oL k : Nat) : Int))))] [nn, nn, eR 2] ?_ ?_
            · exact oc (k_mv (.inl rfl) rfl) <|
              oc (k_ia 2 0 k (.int .i64 ((k : Nat) : Int)) (ix34 (i := k) (by omega)) rfl rfl) <|
              oc (k_ld 2 k (.int .i64 (((kq X k) : Nat) : Int)) (c := ai 34 (suFq X oL k)) (ld_suq (t0 := 106) (X := X) (k := k) (by omega)) rfl rfl) <|
              oz (k_mv (.inl rfl) rfl) <|
              oz (k_bi (.int .i64 (((kq X k) : Nat) : Int)) (.int .i64 (((boq X oL k) : Nat) : Int)) (.int .i64 (((kq X k : Nat) : Int) - ((boq X oL k : Nat) : Int))) (sb_z (m := ((kq X k : Nat) : Int)) (n := ((boq X oL k : Nat) : Int)) (by omega) (by omega)) rfl rfl) <|
              oz (k_mv (.inr rfl) rfl) <|
              ok_nil
            clear h; intro β a w h
            refine sym_then ?_
            refine sym_seq ?_
            refine sym_seq ?_
            refine St.r0 h [(68, .inl (.int .i64 ((k : Nat) : Int))), (69, .inl (.bool true))] [] ?_ ?_
            · exact oz (k_mv (.inl rfl) rfl) <|
              oz (k_bi (.int .i64 ((k : Nat) : Int)) (.int .i64 ((32 : Nat) : Int)) (.bool true) (lt_i (m := ((k : Nat) : Int)) (n := ((32 : Nat) : Int)) (decide_eq_true (by omega))) rfl rfl) <|
              ok_nil
            clear h; intro β a w h
            refine sym_then ?_
            refine s_ct h ?_
            refine St.r0 h [(70, .inl (.int .i64 (((kq X k : Nat) : Int) - ((boq X oL k : Nat) : Int)))), (71, .inl (.int .i64 ((k : Nat) : Int))), (72, .inr (1, pt k)), (73, .inl (.int .u8 (((kq oL k) : Nat) : Int))), (74, .inl (.int .i64 (((kq oL k) : Nat) : Int))), (75, .inl (.int .i64 (((kq (X - oL) k) : Nat) : Int))), (12, .inl (.int .i64 (((kq (X - oL) k) : Nat) : Int)))] [eO, nn, nn, eR 1] ?_ ?_
            · exact oc (k_m0 rfl rfl) <|
              oc (k_mv (.inl rfl) rfl) <|
              oc (k_ia 1 0 k (.int .i64 ((k : Nat) : Int)) (ixK (i := k) (by omega)) rfl rfl) <|
              oc (k_ld 1 k (.int .u8 (((kq oL k) : Nat) : Int)) (c := ck (kq oL)) (ld_k (F := (kq oL)) (i := k) (t0 := 23) (by omega)) rfl rfl) <|
              oz (k_co (.int .u8 (((kq oL k) : Nat) : Int)) (.int .i64 (((kq oL k) : Nat) : Int)) (cv_bi (n := (kq oL k)) (kq_lt _ _)) rfl rfl) <|
              oz (k_bi (.int .i64 (((kq X k : Nat) : Int) - ((boq X oL k : Nat) : Int))) (.int .i64 (((kq oL k) : Nat) : Int)) (.int .i64 (((kq (X - oL) k) : Nat) : Int)) (sb_zn (m := ((kq X k : Nat) : Int) - ((boq X oL k : Nat) : Int)) (n := ((kq oL k : Nat) : Int)) (k := kq (X - oL) k) (by omega) (by omega)) rfl rfl) <|
              oz (k_mv (.inr rfl) rfl) <|
              ok_nil
            clear h; intro β a w h
            refine sym_then ?_
            refine sym_seq ?_
            refine St.r0 h [(10, .inl (.int .i64 ((0 : Nat) : Int)))] [] ?_ ?_
            · exact oz (k_mv (.inr rfl) rfl) <|
              ok_nil
            clear h; intro β a w h
            refine sym_then ?_
            refine sym_seq ?_
            refine sym_seq ?_
            refine St.r0 h [(76, .inl (.int .i64 (((kq (X - oL) k) : Nat) : Int))), (77, .inl (.bool false))] [] ?_ ?_
            · exact oz (k_mv (.inl rfl) rfl) <|
              oz (k_bi (.int .i64 (((kq (X - oL) k) : Nat) : Int)) (.int .i64 ((0 : Nat) : Int)) (.bool false) (lt_i (m := (((kq (X - oL) k) : Nat) : Int)) (n := ((0 : Nat) : Int)) (decide_eq_false (by omega))) rfl rfl) <|
              ok_nil
            clear h; intro β a w h
            refine sym_then ?_
            refine s_cf h ?_
            refine wp_skip ?_
            refine sym_then ?_
            refine St.rg h [(80, .inl (.int .i64 ((k : Nat) : Int))), (81, .inl (.int .i64 (((kq (X - oL) k) : Nat) : Int))), (82, .inr (2, pt k))] [] [(2, ai 34 (updN (suFq X oL k) k (kq (X - oL) k)))] [nn, nn, nn, eS 2] ?_ ?_
            · exact oc (k_mv (.inl rfl) rfl) <|
              oc (k_mv (.inl rfl) rfl) <|
              oc (k_ia 2 0 k (.int .i64 ((k : Nat) : Int)) (ix34 (i := k) (by omega)) rfl rfl) <|
              oc (k_st 2 k (.int .i64 (((kq (X - oL) k) : Nat) : Int)) (c := ai 34 (suFq X oL k)) (n := ai 34 (updN (suFq X oL k) k (kq (X - oL) k))) (st_at (n := 34) (F := (suFq X oL k)) (i := k) (v := (kq (X - oL) k)) (t0 := 106) (by omega)) rfl rfl) <|
              ok_nil
            clear h; intro β a w h
            refine blk_norm ?_
            refine sym_then ?_
            refine St.r0 h [(61, .inl (.int .i64 ((k : Nat) : Int))), (62, .inl (.int .i64 (((k + 1) : Nat) : Int))), (11, .inl (.int .i64 (((k + 1) : Nat) : Int)))] [eO] ?_ ?_
            · exact oc (k_m0 rfl rfl) <|
              oz (k_bi (.int .i64 ((k : Nat) : Int)) (.int .i64 ((1 : Nat) : Int)) (.int .i64 (((k + 1) : Nat) : Int)) (ad_i (m := k) (n := 1) (by omega)) rfl rfl) <|
              oz (k_mv (.inr rfl) rfl) <|
              ok_nil
            clear h; intro β a w h
            replace h := St.sm h 2 (ai 34 (suFq X oL (k + 1))) (c := ai 34 (updN (suFq X oL k) k (kq (X - oL) k))) (t := 106) (suF_nextq rfl)
            replace h := St.ss h 10 (.int .i64 (((boq X oL (k + 1)) : Nat) : Int)) (v := .int .i64 ((0 : Nat) : Int)) (by rw [bo_noq hbn])
            obtain ⟨x, h⟩ := St.jn (n := 94) h [0, 2, 3, 4, 5, 6, 7, 10, 11, 15, 16, 17, 18, 19, 20, 23, 24, 33, 34, 35, 36, 37, 58] [.inl (.slice aa len cap), .inr (0, pt 0), .inr (1, pt 0), .inr (2, pt 0), .inl (.int .i64 (((len - 1 - j) : Nat) : Int)), .inl (.int .i64 (dn33 33)), .inl (.bool false), .inl (.int .i64 (((boq X oL (k + 1)) : Nat) : Int)), .inl (.int .i64 (((k + 1) : Nat) : Int)), .inl (.agg (ck (kq oL))), .inl (.slice aa len cap), .inl (.int .i64 ((len : Nat) : Int)), .inl (.int .i64 (dnL len 0)), .inl (.int .i64 (((len - 1 - j) : Nat) : Int)), .inl (.bool true), .inl (.int .i64 (dn33 33)), .inl (.bool false), .inl (.slice aa len cap), .inl (.int .i64 (((len - 1 - j) : Nat) : Int)), .inl (.pointer (some ⟨b0, off0 + (len - 1 - j), none⟩)), .inl (.int .i64 (((g (len - 1 - j)) : Nat) : Int)), .inr (2, pt 0), .inl (.bool false)] [(ck (fun _ => 0), 23), (ck (kq oL), 23), (ai 34 (suFq X oL (k + 1)), 106)] (by kernel_rfl) (by kernel_rfl) (by kernel_rfl)
            exact ⟨hltk, x, _, h⟩
          · have f1 := kq_lt X k
            have f2 := kq_lt oL k
            have f3 := kq_lt (X - oL) k
            have f4 := bo_leq X oL k
            have f5 := sub_yesq hle hbn
            refine sym_seq ?_
            refine sym_seq ?_
            refine St.r0 h [(59, .inl (.int .i64 ((k : Nat) : Int))), (60, .inl (.bool true))] [] ?_ ?_
            · exact oz (k_mv (.inl rfl) rfl) <|
              oz (k_bi (.int .i64 ((k : Nat) : Int)) (.int .i64 ((34 : Nat) : Int)) (.bool true) (lt_i (m := ((k : Nat) : Int)) (n := ((34 : Nat) : Int)) (decide_eq_true (by omega))) rfl rfl) <|
              ok_nil
            clear h; intro β a w h
            refine sym_then ?_
            refine s_ct h ?_
            refine wp_skip ?_
            refine sym_then ?_
            refine sym_seq ?_
            refine blk_in ?_
            refine sym_seq ?_
            refine St.r0 h [(63, .inl (.int .i64 ((k : Nat) : Int))), (64, .inr (2, pt k)), (65, .inl (.int .i64 (((kq X k) : Nat) : Int))), (66, .inl (.int .i64 (((boq X oL k) : Nat) : Int))), (67, .inl (.int .i64 (((kq X k : Nat) : Int) - ((boq X oL k : Nat) : Int)))), (12, .inl (.int .i64 (((kq X k : Nat) : Int) - ((boq X oL k : Nat) : Int))))] [nn, nn, eR 2] ?_ ?_
            · exact oc (k_mv (.inl rfl) rfl) <|
              oc (k_ia 2 0 k (.int .i64 ((k : Nat) : Int)) (ix34 (i := k) (by omega)) rfl rfl) <|
              oc (k_ld 2 k (.int .i64 (((kq X k) : Nat) : Int)) (c := ai 34 (suFq X oL k)) (ld_suq (t0 := 106) (X := X) (k := k) (by omega)) rfl rfl) <|
              oz (k_mv (.inl rfl) rfl) <|
              oz (k_bi (.int .i64 (((kq X k) : Nat) : Int)) (.int .i64 (((boq X oL k) : Nat) : Int)) (.int .i64 (((kq X k : Nat) : Int) - ((boq X oL k : Nat) : Int))) (sb_z (m := ((kq X k : Nat) : Int)) (n := ((boq X oL k : Nat) : Int)) (by omega) (by omega)) rfl rfl) <|
              oz (k_mv (.inr rfl) rfl) <|
              ok_nil
            clear h; intro β a w h
            refine sym_then ?_
            refine sym_seq ?_
            refine sym_seq ?_
            refine St.r0 h [(68, .inl (.int .i64 ((k : Nat) : Int))), (69, .inl (.bool true))] [] ?_ ?_
            · exact oz (k_mv (.inl rfl) rfl) <|
              oz (k_bi (.int .i64 ((k : Nat) : Int)) (.int .i64 ((32 : Nat) : Int)) (.bool true) (lt_i (m := ((k : Nat) : Int)) (n := ((32 : Nat) : Int)) (decide_eq_true (by omega))) rfl rfl) <|
              ok_nil
            clear h; intro β a w h
            refine sym_then ?_
            refine s_ct h ?_
            refine St.r0 h [(70, .inl (.int .i64 (((kq X k : Nat) : Int) - ((boq X oL k : Nat) : Int)))), (71, .inl (.int .i64 ((k : Nat) : Int))), (72, .inr (1, pt k)), (73, .inl (.int .u8 (((kq oL k) : Nat) : Int))), (74, .inl (.int .i64 (((kq oL k) : Nat) : Int))), (75, .inl (.int .i64 (((kq X k : Nat) : Int) - ((boq X oL k : Nat) : Int) - ((kq oL k : Nat) : Int)))), (12, .inl (.int .i64 (((kq X k : Nat) : Int) - ((boq X oL k : Nat) : Int) - ((kq oL k : Nat) : Int))))] [eO, nn, nn, eR 1] ?_ ?_
            · exact oc (k_m0 rfl rfl) <|
              oc (k_mv (.inl rfl) rfl) <|
              oc (k_ia 1 0 k (.int .i64 ((k : Nat) : Int)) (ixK (i := k) (by omega)) rfl rfl) <|
              oc (k_ld 1 k (.int .u8 (((kq oL k) : Nat) : Int)) (c := ck (kq oL)) (ld_k (F := (kq oL)) (i := k) (t0 := 23) (by omega)) rfl rfl) <|
              oz (k_co (.int .u8 (((kq oL k) : Nat) : Int)) (.int .i64 (((kq oL k) : Nat) : Int)) (cv_bi (n := (kq oL k)) (kq_lt _ _)) rfl rfl) <|
              oz (k_bi (.int .i64 (((kq X k : Nat) : Int) - ((boq X oL k : Nat) : Int))) (.int .i64 (((kq oL k) : Nat) : Int)) (.int .i64 (((kq X k : Nat) : Int) - ((boq X oL k : Nat) : Int) - ((kq oL k : Nat) : Int))) (sb_z (m := ((kq X k : Nat) : Int) - ((boq X oL k : Nat) : Int)) (n := ((kq oL k : Nat) : Int)) (by omega) (by omega)) rfl rfl) <|
              oz (k_mv (.inr rfl) rfl) <|
              ok_nil
            clear h; intro β a w h
            refine sym_then ?_
            refine sym_seq ?_
            refine St.r0 h [(10, .inl (.int .i64 ((0 : Nat) : Int)))] [] ?_ ?_
            · exact oz (k_mv (.inr rfl) rfl) <|
              ok_nil
            clear h; intro β a w h
            refine sym_then ?_
            refine sym_seq ?_
            refine sym_seq ?_
            refine St.r0 h [(76, .inl (.int .i64 (((kq X k : Nat) : Int) - ((boq X oL k : Nat) : Int) - ((kq oL k : Nat) : Int)))), (77, .inl (.bool true))] [] ?_ ?_
            · exact oz (k_mv (.inl rfl) rfl) <|
              oz (k_bi (.int .i64 (((kq X k : Nat) : Int) - ((boq X oL k : Nat) : Int) - ((kq oL k : Nat) : Int))) (.int .i64 ((0 : Nat) : Int)) (.bool true) (lt_i (m := ((kq X k : Nat) : Int) - ((boq X oL k : Nat) : Int) - ((kq oL k : Nat) : Int)) (n := ((0 : Nat) : Int)) (decide_eq_true (by omega))) rfl rfl) <|
              ok_nil
            clear h; intro β a w h
            refine sym_then ?_
            refine s_ct h ?_
            refine sym_seq ?_
            refine St.r0 h [(78, .inl (.int .i64 (((kq X k : Nat) : Int) - ((boq X oL k : Nat) : Int) - ((kq oL k : Nat) : Int)))), (79, .inl (.int .i64 (((kq (X - oL) k) : Nat) : Int))), (12, .inl (.int .i64 (((kq (X - oL) k) : Nat) : Int)))] [eO] ?_ ?_
            · exact oc (k_m0 rfl rfl) <|
              oz (k_bi (.int .i64 (((kq X k : Nat) : Int) - ((boq X oL k : Nat) : Int) - ((kq oL k : Nat) : Int))) (.int .i64 ((256 : Nat) : Int)) (.int .i64 (((kq (X - oL) k) : Nat) : Int)) (ad_zn (m := ((kq X k : Nat) : Int) - ((boq X oL k : Nat) : Int) - ((kq oL k : Nat) : Int)) (n := ((256 : Nat) : Int)) (k := kq (X - oL) k) (by omega) (by omega)) rfl rfl) <|
              oz (k_mv (.inr rfl) rfl) <|
              ok_nil
            clear h; intro β a w h
            refine sym_then ?_
            refine St.r0 h [(10, .inl (.int .i64 ((1 : Nat) : Int)))] [] ?_ ?_
            · exact oz (k_mv (.inr rfl) rfl) <|
              ok_nil
            clear h; intro β a w h
            refine sym_then ?_
            refine St.rg h [(80, .inl (.int .i64 ((k : Nat) : Int))), (81, .inl (.int .i64 (((kq (X - oL) k) : Nat) : Int))), (82, .inr (2, pt k))] [] [(2, ai 34 (updN (suFq X oL k) k (kq (X - oL) k)))] [nn, nn, nn, eS 2] ?_ ?_
            · exact oc (k_mv (.inl rfl) rfl) <|
              oc (k_mv (.inl rfl) rfl) <|
              oc (k_ia 2 0 k (.int .i64 ((k : Nat) : Int)) (ix34 (i := k) (by omega)) rfl rfl) <|
              oc (k_st 2 k (.int .i64 (((kq (X - oL) k) : Nat) : Int)) (c := ai 34 (suFq X oL k)) (n := ai 34 (updN (suFq X oL k) k (kq (X - oL) k))) (st_at (n := 34) (F := (suFq X oL k)) (i := k) (v := (kq (X - oL) k)) (t0 := 106) (by omega)) rfl rfl) <|
              ok_nil
            clear h; intro β a w h
            refine blk_norm ?_
            refine sym_then ?_
            refine St.r0 h [(61, .inl (.int .i64 ((k : Nat) : Int))), (62, .inl (.int .i64 (((k + 1) : Nat) : Int))), (11, .inl (.int .i64 (((k + 1) : Nat) : Int)))] [eO] ?_ ?_
            · exact oc (k_m0 rfl rfl) <|
              oz (k_bi (.int .i64 ((k : Nat) : Int)) (.int .i64 ((1 : Nat) : Int)) (.int .i64 (((k + 1) : Nat) : Int)) (ad_i (m := k) (n := 1) (by omega)) rfl rfl) <|
              oz (k_mv (.inr rfl) rfl) <|
              ok_nil
            clear h; intro β a w h
            replace h := St.sm h 2 (ai 34 (suFq X oL (k + 1))) (c := ai 34 (updN (suFq X oL k) k (kq (X - oL) k))) (t := 106) (suF_nextq rfl)
            replace h := St.ss h 10 (.int .i64 (((boq X oL (k + 1)) : Nat) : Int)) (v := .int .i64 ((1 : Nat) : Int)) (by rw [bo_yesq hbn])
            obtain ⟨x, h⟩ := St.jn (n := 94) h [0, 2, 3, 4, 5, 6, 7, 10, 11, 15, 16, 17, 18, 19, 20, 23, 24, 33, 34, 35, 36, 37, 58] [.inl (.slice aa len cap), .inr (0, pt 0), .inr (1, pt 0), .inr (2, pt 0), .inl (.int .i64 (((len - 1 - j) : Nat) : Int)), .inl (.int .i64 (dn33 33)), .inl (.bool false), .inl (.int .i64 (((boq X oL (k + 1)) : Nat) : Int)), .inl (.int .i64 (((k + 1) : Nat) : Int)), .inl (.agg (ck (kq oL))), .inl (.slice aa len cap), .inl (.int .i64 ((len : Nat) : Int)), .inl (.int .i64 (dnL len 0)), .inl (.int .i64 (((len - 1 - j) : Nat) : Int)), .inl (.bool true), .inl (.int .i64 (dn33 33)), .inl (.bool false), .inl (.slice aa len cap), .inl (.int .i64 (((len - 1 - j) : Nat) : Int)), .inl (.pointer (some ⟨b0, off0 + (len - 1 - j), none⟩)), .inl (.int .i64 (((g (len - 1 - j)) : Nat) : Int)), .inr (2, pt 0), .inl (.bool false)] [(ck (fun _ => 0), 23), (ck (kq oL), 23), (ai 34 (suFq X oL (k + 1)), 106)] (by kernel_rfl) (by kernel_rfl) (by kernel_rfl)
            exact ⟨hltk, x, _, h⟩
          · have f1 := kq_lt X k
            have f2 := kq_lt oL k
            have f3 := kq_lt (X - oL) k
            have f4 := bo_leq X oL k
            have k0 := kq_oL (k := k) (by omega)
            have f5 := sub_noq hle hbn
            refine sym_seq ?_
            refine sym_seq ?_
            refine St.r0 h [(59, .inl (.int .i64 ((k : Nat) : Int))), (60, .inl (.bool true))] [] ?_ ?_
            · exact oz (k_mv (.inl rfl) rfl) <|
              oz (k_bi (.int .i64 ((k : Nat) : Int)) (.int .i64 ((34 : Nat) : Int)) (.bool true) (lt_i (m := ((k : Nat) : Int)) (n := ((34 : Nat) : Int)) (decide_eq_true (by omega))) rfl rfl) <|
              ok_nil
            clear h; intro β a w h
            refine sym_then ?_
            refine s_ct h ?_
            refine wp_skip ?_
            refine sym_then ?_
            refine sym_seq ?_
            refine blk_in ?_
            refine sym_seq ?_
            refine St.r0 h [(63, .inl (.int .i64 ((k : Nat) : Int))), (64, .inr (2, pt k)), (65, .inl (.int .i64 (((kq X k) : Nat) : Int))), (66, .inl (.int .i64 (((boq X oL k) : Nat) : Int))), (67, .inl (.int .i64 (((kq (X - oL) k) : Nat) : Int))), (12, .inl (.int .i64 (((kq (X - oL) k) : Nat) : Int)))] [nn, nn, eR 2] ?_ ?_
            · exact oc (k_mv (.inl rfl) rfl) <|
              oc (k_ia 2 0 k (.int .i64 ((k : Nat) : Int)) (ix34 (i := k) (by omega)) rfl rfl) <|
              oc (k_ld 2 k (.int .i64 (((kq X k) : Nat) : Int)) (c := ai 34 (suFq X oL k)) (ld_suq (t0 := 106) (X := X) (k := k) (by omega)) rfl rfl) <|
              oz (k_mv (.inl rfl) rfl) <|
              oz (k_bi (.int .i64 (((kq X k) : Nat) : Int)) (.int .i64 (((boq X oL k) : Nat) : Int)) (.int .i64 (((kq (X - oL) k) : Nat) : Int)) (sb_zn (m := ((kq X k : Nat) : Int)) (n := ((boq X oL k : Nat) : Int)) (k := kq (X - oL) k) (by omega) (by omega)) rfl rfl) <|
              oz (k_mv (.inr rfl) rfl) <|
              ok_nil
            clear h; intro β a w h
            refine sym_then ?_
            refine sym_seq ?_
            refine sym_seq ?_
            refine St.r0 h [(68, .inl (.int .i64 ((k : Nat) : Int))), (69, .inl (.bool false))] [] ?_ ?_
            · exact oz (k_mv (.inl rfl) rfl) <|
              oz (k_bi (.int .i64 ((k : Nat) : Int)) (.int .i64 ((32 : Nat) : Int)) (.bool false) (lt_i (m := ((k : Nat) : Int)) (n := ((32 : Nat) : Int)) (decide_eq_false (by omega))) rfl rfl) <|
              ok_nil
            clear h; intro β a w h
            refine sym_then ?_
            refine s_cf h ?_
            refine wp_skip ?_
            refine sym_then ?_
            refine sym_seq ?_
            refine St.r0 h [(10, .inl (.int .i64 ((0 : Nat) : Int)))] [] ?_ ?_
            · exact oz (k_mv (.inr rfl) rfl) <|
              ok_nil
            clear h; intro β a w h
            refine sym_then ?_
            refine sym_seq ?_
            refine sym_seq ?_
            refine St.r0 h [(76, .inl (.int .i64 (((kq (X - oL) k) : Nat) : Int))), (77, .inl (.bool false))] [] ?_ ?_
            · exact oz (k_mv (.inl rfl) rfl) <|
              oz (k_bi (.int .i64 (((kq (X - oL) k) : Nat) : Int)) (.int .i64 ((0 : Nat) : Int)) (.bool false) (lt_i (m := (((kq (X - oL) k) : Nat) : Int)) (n := ((0 : Nat) : Int)) (decide_eq_false (by omega))) rfl rfl) <|
              ok_nil
            clear h; intro β a w h
            refine sym_then ?_
            refine s_cf h ?_
            refine wp_skip ?_
            refine sym_then ?_
            refine St.rg h [(80, .inl (.int .i64 ((k : Nat) : Int))), (81, .inl (.int .i64 (((kq (X - oL) k) : Nat) : Int))), (82, .inr (2, pt k))] [] [(2, ai 34 (updN (suFq X oL k) k (kq (X - oL) k)))] [nn, nn, nn, eS 2] ?_ ?_
            · exact oc (k_mv (.inl rfl) rfl) <|
              oc (k_mv (.inl rfl) rfl) <|
              oc (k_ia 2 0 k (.int .i64 ((k : Nat) : Int)) (ix34 (i := k) (by omega)) rfl rfl) <|
              oc (k_st 2 k (.int .i64 (((kq (X - oL) k) : Nat) : Int)) (c := ai 34 (suFq X oL k)) (n := ai 34 (updN (suFq X oL k) k (kq (X - oL) k))) (st_at (n := 34) (F := (suFq X oL k)) (i := k) (v := (kq (X - oL) k)) (t0 := 106) (by omega)) rfl rfl) <|
              ok_nil
            clear h; intro β a w h
            refine blk_norm ?_
            refine sym_then ?_
            refine St.r0 h [(61, .inl (.int .i64 ((k : Nat) : Int))), (62, .inl (.int .i64 (((k + 1) : Nat) : Int))), (11, .inl (.int .i64 (((k + 1) : Nat) : Int)))] [eO] ?_ ?_
            · exact oc (k_m0 rfl rfl) <|
              oz (k_bi (.int .i64 ((k : Nat) : Int)) (.int .i64 ((1 : Nat) : Int)) (.int .i64 (((k + 1) : Nat) : Int)) (ad_i (m := k) (n := 1) (by omega)) rfl rfl) <|
              oz (k_mv (.inr rfl) rfl) <|
              ok_nil
            clear h; intro β a w h
            replace h := St.sm h 2 (ai 34 (suFq X oL (k + 1))) (c := ai 34 (updN (suFq X oL k) k (kq (X - oL) k))) (t := 106) (suF_nextq rfl)
            replace h := St.ss h 10 (.int .i64 (((boq X oL (k + 1)) : Nat) : Int)) (v := .int .i64 ((0 : Nat) : Int)) (by rw [bo_noq hbn])
            obtain ⟨x, h⟩ := St.jn (n := 94) h [0, 2, 3, 4, 5, 6, 7, 10, 11, 15, 16, 17, 18, 19, 20, 23, 24, 33, 34, 35, 36, 37, 58] [.inl (.slice aa len cap), .inr (0, pt 0), .inr (1, pt 0), .inr (2, pt 0), .inl (.int .i64 (((len - 1 - j) : Nat) : Int)), .inl (.int .i64 (dn33 33)), .inl (.bool false), .inl (.int .i64 (((boq X oL (k + 1)) : Nat) : Int)), .inl (.int .i64 (((k + 1) : Nat) : Int)), .inl (.agg (ck (kq oL))), .inl (.slice aa len cap), .inl (.int .i64 ((len : Nat) : Int)), .inl (.int .i64 (dnL len 0)), .inl (.int .i64 (((len - 1 - j) : Nat) : Int)), .inl (.bool true), .inl (.int .i64 (dn33 33)), .inl (.bool false), .inl (.slice aa len cap), .inl (.int .i64 (((len - 1 - j) : Nat) : Int)), .inl (.pointer (some ⟨b0, off0 + (len - 1 - j), none⟩)), .inl (.int .i64 (((g (len - 1 - j)) : Nat) : Int)), .inr (2, pt 0), .inl (.bool false)] [(ck (fun _ => 0), 23), (ck (kq oL), 23), (ai 34 (suFq X oL (k + 1)), 106)] (by kernel_rfl) (by kernel_rfl) (by kernel_rfl)
            exact ⟨hltk, x, _, h⟩
          · have f1 := kq_lt X k
            have f2 := kq_lt oL k
            have f3 := kq_lt (X - oL) k
            have f4 := bo_leq X oL k
            have k0 := kq_oL (k := k) (by omega)
            have f5 := sub_yesq hle hbn
            refine sym_seq ?_
            refine sym_seq ?_
            refine St.r0 h [(59, .inl (.int .i64 ((k : Nat) : Int))), (60, .inl (.bool true))] [] ?_ ?_
            · exact oz (k_mv (.inl rfl) rfl) <|
              oz (k_bi (.int .i64 ((k : Nat) : Int)) (.int .i64 ((34 : Nat) : Int)) (.bool true) (lt_i (m := ((k : Nat) : Int)) (n := ((34 : Nat) : Int)) (decide_eq_true (by omega))) rfl rfl) <|
              ok_nil
            clear h; intro β a w h
            refine sym_then ?_
            refine s_ct h ?_
            refine wp_skip ?_
            refine sym_then ?_
            refine sym_seq ?_
            refine blk_in ?_
            refine sym_seq ?_
            refine St.r0 h [(63, .inl (.int .i64 ((k : Nat) : Int))), (64, .inr (2, pt k)), (65, .inl (.int .i64 (((kq X k) : Nat) : Int))), (66, .inl (.int .i64 (((boq X oL k) : Nat) : Int))), (67, .inl (.int .i64 (((kq X k : Nat) : Int) - ((boq X oL k : Nat) : Int)))), (12, .inl (.int .i64 (((kq X k : Nat) : Int) - ((boq X oL k : Nat) : Int))))] [nn, nn, eR 2] ?_ ?_
            · exact oc (k_mv (.inl rfl) rfl) <|
              oc (k_ia 2 0 k (.int .i64 ((k : Nat) : Int)) (ix34 (i := k) (by omega)) rfl rfl) <|
              oc (k_ld 2 k (.int .i64 (((kq X k) : Nat) : Int)) (c := ai 34 (suFq X oL k)) (ld_suq (t0 := 106) (X := X) (k := k) (by omega)) rfl rfl) <|
              oz (k_mv (.inl rfl) rfl) <|
              oz (k_bi (.int .i64 (((kq X k) : Nat) : Int)) (.int .i64 (((boq X oL k) : Nat) : Int)) (.int .i64 (((kq X k : Nat) : Int) - ((boq X oL k : Nat) : Int))) (sb_z (m := ((kq X k : Nat) : Int)) (n := ((boq X oL k : Nat) : Int)) (by omega) (by omega)) rfl rfl) <|
              oz (k_mv (.inr rfl) rfl) <|
              ok_nil
            clear h; intro β a w h
            refine sym_then ?_
            refine sym_seq ?_
            refine sym_seq ?_
            refine St.r0 h [(68, .inl (.int .i64 ((k : Nat) : Int))), (69, .inl (.bool false))] [] ?_ ?_
            · exact oz (k_mv (.inl rfl) rfl) <|
              oz (k_bi (.int .i64 ((k : Nat) : Int)) (.int .i64 ((32 : Nat) : Int)) (.bool false) (lt_i (m := ((k : Nat) : Int)) (n := ((32 : Nat) : Int)) (decide_eq_false (by omega))) rfl rfl) <|
              ok_nil
            clear h; intro β a w h
            refine sym_then ?_
            refine s_cf h ?_
            refine wp_skip ?_
            refine sym_then ?_
            refine sym_seq ?_
            refine St.r0 h [(10, .inl (.int .i64 ((0 : Nat) : Int)))] [] ?_ ?_
            · exact oz (k_mv (.inr rfl) rfl) <|
              ok_nil
            clear h; intro β a w h
            refine sym_then ?_
            refine sym_seq ?_
            refine sym_seq ?_
            refine St.r0 h [(76, .inl (.int .i64 (((kq X k : Nat) : Int) - ((boq X oL k : Nat) : Int)))), (77, .inl (.bool true))] [] ?_ ?_
            · exact oz (k_mv (.inl rfl) rfl) <|
              oz (k_bi (.int .i64 (((kq X k : Nat) : Int) - ((boq X oL k : Nat) : Int))) (.int .i64 ((0 : Nat) : Int)) (.bool true) (lt_i (m := ((kq X k : Nat) : Int) - ((boq X oL k : Nat) : Int)) (n := ((0 : Nat) : Int)) (decide_eq_true (by omega))) rfl rfl) <|
              ok_nil
            clear h; intro β a w h
            refine sym_then ?_
            refine s_ct h ?_
            refine sym_seq ?_
            refine St.r0 h [(78, .inl (.int .i64 (((kq X k : Nat) : Int) - ((boq X oL k : Nat) : Int)))), (79, .inl (.int .i64 (((kq (X - oL) k) : Nat) : Int))), (12, .inl (.int .i64 (((kq (X - oL) k) : Nat) : Int)))] [eO] ?_ ?_
            · exact oc (k_m0 rfl rfl) <|
              oz (k_bi (.int .i64 (((kq X k : Nat) : Int) - ((boq X oL k : Nat) : Int))) (.int .i64 ((256 : Nat) : Int)) (.int .i64 (((kq (X - oL) k) : Nat) : Int)) (ad_zn (m := ((kq X k : Nat) : Int) - ((boq X oL k : Nat) : Int)) (n := ((256 : Nat) : Int)) (k := kq (X - oL) k) (by omega) (by omega)) rfl rfl) <|
              oz (k_mv (.inr rfl) rfl) <|
              ok_nil
            clear h; intro β a w h
            refine sym_then ?_
            refine St.r0 h [(10, .inl (.int .i64 ((1 : Nat) : Int)))] [] ?_ ?_
            · exact oz (k_mv (.inr rfl) rfl) <|
              ok_nil
            clear h; intro β a w h
            refine sym_then ?_
            refine St.rg h [(80, .inl (.int .i64 ((k : Nat) : Int))), (81, .inl (.int .i64 (((kq (X - oL) k) : Nat) : Int))), (82, .inr (2, pt k))] [] [(2, ai 34 (updN (suFq X oL k) k (kq (X - oL) k)))] [nn, nn, nn, eS 2] ?_ ?_
            · exact oc (k_mv (.inl rfl) rfl) <|
              oc (k_mv (.inl rfl) rfl) <|
              oc (k_ia 2 0 k (.int .i64 ((k : Nat) : Int)) (ix34 (i := k) (by omega)) rfl rfl) <|
              oc (k_st 2 k (.int .i64 (((kq (X - oL) k) : Nat) : Int)) (c := ai 34 (suFq X oL k)) (n := ai 34 (updN (suFq X oL k) k (kq (X - oL) k))) (st_at (n := 34) (F := (suFq X oL k)) (i := k) (v := (kq (X - oL) k)) (t0 := 106) (by omega)) rfl rfl) <|
              ok_nil
            clear h; intro β a w h
            refine blk_norm ?_
            refine sym_then ?_
            refine St.r0 h [(61, .inl (.int .i64 ((k : Nat) : Int))), (62, .inl (.int .i64 (((k + 1) : Nat) : Int))), (11, .inl (.int .i64 (((k + 1) : Nat) : Int)))] [eO] ?_ ?_
            · exact oc (k_m0 rfl rfl) <|
              oz (k_bi (.int .i64 ((k : Nat) : Int)) (.int .i64 ((1 : Nat) : Int)) (.int .i64 (((k + 1) : Nat) : Int)) (ad_i (m := k) (n := 1) (by omega)) rfl rfl) <|
              oz (k_mv (.inr rfl) rfl) <|
              ok_nil
            clear h; intro β a w h
            replace h := St.sm h 2 (ai 34 (suFq X oL (k + 1))) (c := ai 34 (updN (suFq X oL k) k (kq (X - oL) k))) (t := 106) (suF_nextq rfl)
            replace h := St.ss h 10 (.int .i64 (((boq X oL (k + 1)) : Nat) : Int)) (v := .int .i64 ((1 : Nat) : Int)) (by rw [bo_yesq hbn])
            obtain ⟨x, h⟩ := St.jn (n := 94) h [0, 2, 3, 4, 5, 6, 7, 10, 11, 15, 16, 17, 18, 19, 20, 23, 24, 33, 34, 35, 36, 37, 58] [.inl (.slice aa len cap), .inr (0, pt 0), .inr (1, pt 0), .inr (2, pt 0), .inl (.int .i64 (((len - 1 - j) : Nat) : Int)), .inl (.int .i64 (dn33 33)), .inl (.bool false), .inl (.int .i64 (((boq X oL (k + 1)) : Nat) : Int)), .inl (.int .i64 (((k + 1) : Nat) : Int)), .inl (.agg (ck (kq oL))), .inl (.slice aa len cap), .inl (.int .i64 ((len : Nat) : Int)), .inl (.int .i64 (dnL len 0)), .inl (.int .i64 (((len - 1 - j) : Nat) : Int)), .inl (.bool true), .inl (.int .i64 (dn33 33)), .inl (.bool false), .inl (.slice aa len cap), .inl (.int .i64 (((len - 1 - j) : Nat) : Int)), .inl (.pointer (some ⟨b0, off0 + (len - 1 - j), none⟩)), .inl (.int .i64 (((g (len - 1 - j)) : Nat) : Int)), .inr (2, pt 0), .inl (.bool false)] [(ck (fun _ => 0), 23), (ck (kq oL), 23), (ai 34 (suFq X oL (k + 1)), 106)] (by kernel_rfl) (by kernel_rfl) (by kernel_rfl)
            exact ⟨hltk, x, _, h⟩
        · obtain rfl : 34 = k := by omega
          refine sym_seq ?_
          refine sym_seq ?_
          refine St.r0 h [(59, .inl (.int .i64 ((34 : Nat) : Int))), (60, .inl (.bool false))] [] ?_ ?_
          · exact oz (k_mv (.inl rfl) rfl) <|
            oz (k_bi (.int .i64 ((34 : Nat) : Int)) (.int .i64 ((34 : Nat) : Int)) (.bool false) (lt_i (m := ((34 : Nat) : Int)) (n := ((34 : Nat) : Int)) (decide_eq_false (by omega))) rfl rfl) <|
            ok_nil
          clear h; intro β a w h
          refine sym_then ?_
          refine s_cf h ?_
          refine wp_exit ?_
          refine then_exit ?_
          refine then_exit ?_
          refine blk_exit ?_
          refine blk_norm ?_
          replace h := St.sm h 2 (ai 34 (kq (M - (c + 1) * oL))) (c := ai 34 (suFq X oL 34)) (t := 106) ((suF_endq X oL).trans (by rw [hXe, sub_c]))
          obtain ⟨x, h⟩ := St.jn (n := 94) h [0, 2, 3, 4, 5, 6, 15, 16, 17, 18, 19, 20, 23, 24, 33, 34, 35, 36, 37] [.inl (.slice aa len cap), .inr (0, pt 0), .inr (1, pt 0), .inr (2, pt 0), .inl (.int .i64 (((len - 1 - j) : Nat) : Int)), .inl (.int .i64 (dn33 33)), .inl (.agg (ck (kq oL))), .inl (.slice aa len cap), .inl (.int .i64 ((len : Nat) : Int)), .inl (.int .i64 (dnL len 0)), .inl (.int .i64 (((len - 1 - j) : Nat) : Int)), .inl (.bool true), .inl (.int .i64 (dn33 33)), .inl (.bool false), .inl (.slice aa len cap), .inl (.int .i64 (((len - 1 - j) : Nat) : Int)), .inl (.pointer (some ⟨b0, off0 + (len - 1 - j), none⟩)), .inl (.int .i64 (((g (len - 1 - j)) : Nat) : Int)), .inr (2, pt 0)] [(ck (fun _ => 0), 23), (ck (kq oL), 23), (ai 34 (kq (M - (c + 1) * oL)), 106)] (by kernel_rfl) (by kernel_rfl) (by kernel_rfl)
          exact ⟨hltc, x, _, h⟩
      · obtain rfl : (M / oL) = c := by omega
        obtain ⟨X, hXe⟩ : ∃ X, X = M - M / oL * oL := ⟨_, rfl⟩
        have hX : X < oL := by rw [hXe]; exact c_lt
        have hX34 : X < 256 ^ 34 := by rw [hXe]; exact Nat.lt_of_le_of_lt (Nat.sub_le _ _) hML
        replace h := St.sm h 2 (ai 34 (kq X)) (c := ai 34 (kq (M - (M / oL) * oL))) (t := 106) (by rw [hXe])
        refine blk_in ?_
        refine sym_seq ?_
        refine St.r0 h [(7, .inl (.bool false))] [] ?_ ?_
        · exact oz (k_mv (.inr rfl) rfl) <|
          ok_nil
        clear h; intro β a w h
        refine sym_then ?_
        refine seq_cut (fun a w => ∃ (x : Nat → SV) (β : Nat → Nat), St (wd W0) (ov (jk 94 x) ([0, 2, 3, 4, 5, 6, 7, 15, 16, 17, 18, 19, 20, 23, 24, 33, 34, 35, 36, 37].zip [.inl (.slice aa len cap), .inr (0, pt 0), .inr (1, pt 0), .inr (2, pt 0), .inl (.int .i64 (((len - 1 - j) : Nat) : Int)), .inl (.int .i64 (dn33 33)), .inl (.bool true), .inl (.agg (ck (kq oL))), .inl (.slice aa len cap), .inl (.int .i64 ((len : Nat) : Int)), .inl (.int .i64 (dnL len 0)), .inl (.int .i64 (((len - 1 - j) : Nat) : Int)), .inl (.bool true), .inl (.int .i64 (dn33 33)), .inl (.bool false), .inl (.slice aa len cap), .inl (.int .i64 (((len - 1 - j) : Nat) : Int)), .inl (.pointer (some ⟨b0, off0 + (len - 1 - j), none⟩)), .inl (.int .i64 (((g (len - 1 - j)) : Nat) : Int)), .inr (2, pt 0)])) [(ck (fun _ => 0), 23), (ck (kq oL), 23), (ai 34 (kq X), 106)] β a w) ?_ ?_
        · refine sym_seq ?_
          refine St.r0 h [(8, .inl (.int .i64 ((33 : Nat) : Int)))] [] ?_ ?_
          · exact oz (k_mv (.inr rfl) rfl) <|
            ok_nil
          clear h; intro β a w h
          refine sym_then ?_
          refine blk_in ?_
          replace h := St.ss h 8 (.int .i64 (dn33 0)) (v := .int .i64 ((33 : Nat) : Int)) rfl
          obtain ⟨x, h⟩ := St.jn (n := 94) h [0, 2, 3, 4, 5, 6, 7, 8, 15, 16, 17, 18, 19, 20, 23, 24, 33, 34, 35, 36, 37] [.inl (.slice aa len cap), .inr (0, pt 0), .inr (1, pt 0), .inr (2, pt 0), .inl (.int .i64 (((len - 1 - j) : Nat) : Int)), .inl (.int .i64 (dn33 33)), .inl (.bool false), .inl (.int .i64 (dn33 0)), .inl (.agg (ck (kq oL))), .inl (.slice aa len cap), .inl (.int .i64 ((len : Nat) : Int)), .inl (.int .i64 (dnL len 0)), .inl (.int .i64 (((len - 1 - j) : Nat) : Int)), .inl (.bool true), .inl (.int .i64 (dn33 33)), .inl (.bool false), .inl (.slice aa len cap), .inl (.int .i64 (((len - 1 - j) : Nat) : Int)), .inl (.pointer (some ⟨b0, off0 + (len - 1 - j), none⟩)), .inl (.int .i64 (((g (len - 1 - j)) : Nat) : Int)), .inr (2, pt 0)] [(ck (fun _ => 0), 23), (ck (kq oL), 23), (ai 34 (kq X), 106)] (by kernel_rfl) (by kernel_rfl) (by kernel_rfl)
          refine loop_up 34 (fun s a w => (X / 256 ^ (34 - s) = oL / 256 ^ (34 - s)) ∧ ∃ (x : Nat → SV) (β : Nat → Nat), St (wd W0) (ov (jk 94 x) ([0, 2, 3, 4, 5, 6, 7, 8, 15, 16, 17, 18, 19, 20, 23, 24, 33, 34, 35, 36, 37].zip [.inl (.slice aa len cap), .inr (0, pt 0), .inr (1, pt 0), .inr (2, pt 0), .inl (.int .i64 (((len - 1 - j) : Nat) : Int)), .inl (.int .i64 (dn33 33)), .inl (.bool false), .inl (.int .i64 (dn33 s)), .inl (.agg (ck (kq oL))), .inl (.slice aa len cap), .inl (.int .i64 ((len : Nat) : Int)), .inl (.int .i64 (dnL len 0)), .inl (.int .i64 (((len - 1 - j) : Nat) : Int)), .inl (.bool true), .inl (.int .i64 (dn33 33)), .inl (.bool false), .inl (.slice aa len cap), .inl (.int .i64 (((len - 1 - j) : Nat) : Int)), .inl (.pointer (some ⟨b0, off0 + (len - 1 - j), none⟩)), .inl (.int .i64 (((g (len - 1 - j)) : Nat) : Int)), .inr (2, pt 0)])) [(ck (fun _ => 0), 23), (ck (kq oL), 23), (ai 34 (kq X), 106)] β a w) ⟨be0 hX34, x, _, h⟩ ?_
          clear h; rintro s a w hks ⟨hinvs, x, β, h⟩
          rcases Nat.lt_or_ge s 34 with hlts | hges
          · by_cases hk32 : 33 - s < 32; all_goals by_cases cd2 : kq X (33 - s) = kq oL (33 - s)
            · replace h := St.ss h 8 (.int .i64 (((33 - s) : Nat) : Int)) (v := .int .i64 (dn33 s)) (dn33_v hlts)
              refine sym_seq ?_
              refine sym_seq ?_
              refine St.r0 h [(38, .inl (.int .i64 (((33 - s) : Nat) : Int))), (39, .inl (.bool true))] [] ?_ ?_
              · exact oz (k_mv (.inl rfl) rfl) <|
                oz (k_bi (.int .i64 (((33 - s) : Nat) : Int)) (.int .i64 ((0 : Nat) : Int)) (.bool true) (ge_i (m := (((33 - s) : Nat) : Int)) (n := ((0 : Nat) : Int)) (decide_eq_true (by omega))) rfl rfl) <|
                ok_nil
              clear h; intro β a w h
              refine sym_then ?_
              refine s_ct h ?_
              refine wp_skip ?_
              refine sym_then ?_
              refine sym_seq ?_
              refine blk_in ?_
              refine sym_seq ?_
              refine St.r0 h [(9, .inl (.int .i64 ((0 : Nat) : Int)))] [] ?_ ?_
              · exact oz (k_mv (.inr rfl) rfl) <|
                ok_nil
              clear h; intro β a w h
              refine sym_then ?_
              refine sym_seq ?_
              refine sym_seq ?_
              refine St.r0 h [(42, .inl (.int .i64 (((33 - s) : Nat) : Int))), (43, .inl (.bool true))] [] ?_ ?_
              · exact oz (k_mv (.inl rfl) rfl) <|
                oz (k_bi (.int .i64 (((33 - s) : Nat) : Int)) (.int .i64 ((32 : Nat) : Int)) (.bool true) (lt_i (m := (((33 - s) : Nat) : Int)) (n := ((32 : Nat) : Int)) (decide_eq_true (by omega))) rfl rfl) <|
                ok_nil
              clear h; intro β a w h
              refine sym_then ?_
              refine s_ct h ?_
              refine St.r0 h [(44, .inl (.int .i64 (((33 - s) : Nat) : Int))), (45, .inr (1, pt (33 - s))), (46, .inl (.int .u8 (((kq oL (33 - s)) : Nat) : Int))), (47, .inl (.int .i64 (((kq oL (33 - s)) : Nat) : Int))), (9, .inl (.int .i64 (((kq oL (33 - s)) : Nat) : Int)))] [nn, nn, eR 1] ?_ ?_
              · exact oc (k_mv (.inl rfl) rfl) <|
                oc (k_ia 1 0 ((33 - s)) (.int .i64 (((33 - s) : Nat) : Int)) (ixK (i := (33 - s)) (by omega)) rfl rfl) <|
                oc (k_ld 1 ((33 - s)) (.int .u8 (((kq oL (33 - s)) : Nat) : Int)) (c := ck (kq oL)) (ld_k (F := (kq oL)) (i := (33 - s)) (t0 := 23) (by omega)) rfl rfl) <|
                oz (k_co (.int .u8 (((kq oL (33 - s)) : Nat) : Int)) (.int .i64 (((kq oL (33 - s)) : Nat) : Int)) (cv_bi (n := (kq oL (33 - s))) (kq_lt _ _)) rfl rfl) <|
                oz (k_mv (.inr rfl) rfl) <|
                ok_nil
              clear h; intro β a w h
              refine sym_then ?_
              refine sym_seq ?_
              refine St.r0 h [(48, .inl (.int .i64 (((33 - s) : Nat) : Int))), (49, .inr (2, pt (33 - s))), (50, .inl (.int .i64 (((kq X (33 - s)) : Nat) : Int))), (51, .inl (.int .i64 (((kq oL (33 - s)) : Nat) : Int))), (52, .inl (.bool false))] [nn, nn, eR 2] ?_ ?_
              · exact oc (k_mv (.inl rfl) rfl) <|
                oc (k_ia 2 0 ((33 - s)) (.int .i64 (((33 - s) : Nat) : Int)) (ix34 (i := (33 - s)) (by omega)) rfl rfl) <|
                oc (k_ld 2 ((33 - s)) (.int .i64 (((kq X (33 - s)) : Nat) : Int)) (c := ai 34 (kq X)) (ld_at (n := 34) (F := (kq X)) (i := (33 - s)) (t0 := 106) (by omega)) rfl rfl) <|
                oz (k_mv (.inl rfl) rfl) <|
                oz (k_bi (.int .i64 (((kq X (33 - s)) : Nat) : Int)) (.int .i64 (((kq oL (33 - s)) : Nat) : Int)) (.bool false) (ne_i (m := (((kq X (33 - s)) : Nat) : Int)) (n := (((kq oL (33 - s)) : Nat) : Int)) (decide_eq_false (by omega))) rfl rfl) <|
                ok_nil
              clear h; intro β a w h
              refine sym_then ?_
              refine s_cf h ?_
              refine wp_skip ?_
              refine blk_norm ?_
              refine sym_then ?_
              refine St.r0 h [(40, .inl (.int .i64 (((33 - s) : Nat) : Int))), (41, .inl (.int .i64 (dn33 (s + 1)))), (8, .inl (.int .i64 (dn33 (s + 1))))] [eO] ?_ ?_
              · exact oc (k_m0 rfl rfl) <|
                oz (k_bi (.int .i64 (((33 - s) : Nat) : Int)) (.int .i64 ((1 : Nat) : Int)) (.int .i64 (dn33 (s + 1))) (sb_33 hlts) rfl rfl) <|
                oz (k_mv (.inr rfl) rfl) <|
                ok_nil
              clear h; intro β a w h
              obtain ⟨x, h⟩ := St.jn (n := 94) h [0, 2, 3, 4, 5, 6, 7, 8, 15, 16, 17, 18, 19, 20, 23, 24, 33, 34, 35, 36, 37] [.inl (.slice aa len cap), .inr (0, pt 0), .inr (1, pt 0), .inr (2, pt 0), .inl (.int .i64 (((len - 1 - j) : Nat) : Int)), .inl (.int .i64 (dn33 33)), .inl (.bool false), .inl (.int .i64 (dn33 (s + 1))), .inl (.agg (ck (kq oL))), .inl (.slice aa len cap), .inl (.int .i64 ((len : Nat) : Int)), .inl (.int .i64 (dnL len 0)), .inl (.int .i64 (((len - 1 - j) : Nat) : Int)), .inl (.bool true), .inl (.int .i64 (dn33 33)), .inl (.bool false), .inl (.slice aa len cap), .inl (.int .i64 (((len - 1 - j) : Nat) : Int)), .inl (.pointer (some ⟨b0, off0 + (len - 1 - j), none⟩)), .inl (.int .i64 (((g (len - 1 - j)) : Nat) : Int)), .inr (2, pt 0)] [(ck (fun _ => 0), 23), (ck (kq oL), 23), (ai 34 (kq X), 106)] (by kernel_rfl) (by kernel_rfl) (by kernel_rfl)
              exact ⟨hlts, be1 hinvs hlts cd2, x, _, h⟩
            · replace h := St.ss h 8 (.int .i64 (((33 - s) : Nat) : Int)) (v := .int .i64 (dn33 s)) (dn33_v hlts)
              have cd := cd2
              refine sym_seq ?_
              refine sym_seq ?_
              refine St.r0 h [(38, .inl (.int .i64 (((33 - s) : Nat) : Int))), (39, .inl (.bool true))] [] ?_ ?_
              · exact oz (k_mv (.inl rfl) rfl) <|
                oz (k_bi (.int .i64 (((33 - s) : Nat) : Int)) (.int .i64 ((0 : Nat) : Int)) (.bool true) (ge_i (m := (((33 - s) : Nat) : Int)) (n := ((0 : Nat) : Int)) (decide_eq_true (by omega))) rfl rfl) <|
                ok_nil
              clear h; intro β a w h
              refine sym_then ?_
              refine s_ct h ?_
              refine wp_skip ?_
              refine sym_then ?_
              refine sym_seq ?_
              refine blk_in ?_
              refine sym_seq ?_
              refine St.r0 h [(9, .inl (.int .i64 ((0 : Nat) : Int)))] [] ?_ ?_
              · exact oz (k_mv (.inr rfl) rfl) <|
                ok_nil
              clear h; intro β a w h
              refine sym_then ?_
              refine sym_seq ?_
              refine sym_seq ?_
              refine St.r0 h [(42, .inl (.int .i64 (((33 - s) : Nat) : Int))), (43, .inl (.bool true))] [] ?_ ?_
              · exact oz (k_mv (.inl rfl) rfl) <|
                oz (k_bi (.int .i64 (((33 - s) : Nat) : Int)) (.int .i64 ((32 : Nat) : Int)) (.bool true) (lt_i (m := (((33 - s) : Nat) : Int)) (n := ((32 : Nat) : Int)) (decide_eq_true (by omega))) rfl rfl) <|
                ok_nil
              clear h; intro β a w h
              refine sym_then ?_
              refine s_ct h ?_
              refine St.r0 h [(44, .inl (.int .i64 (((33 - s) : Nat) : Int))), (45, .inr (1, pt (33 - s))), (46, .inl (.int .u8 (((kq oL (33 - s)) : Nat) : Int))), (47, .inl (.int .i64 (((kq oL (33 - s)) : Nat) : Int))), (9, .inl (.int .i64 (((kq oL (33 - s)) : Nat) : Int)))] [nn, nn, eR 1] ?_ ?_
              · exact oc (k_mv (.inl rfl) rfl) <|
                oc (k_ia 1 0 ((33 - s)) (.int .i64 (((33 - s) : Nat) : Int)) (ixK (i := (33 - s)) (by omega)) rfl rfl) <|
                oc (k_ld 1 ((33 - s)) (.int .u8 (((kq oL (33 - s)) : Nat) : Int)) (c := ck (kq oL)) (ld_k (F := (kq oL)) (i := (33 - s)) (t0 := 23) (by omega)) rfl rfl) <|
                oz (k_co (.int .u8 (((kq oL (33 - s)) : Nat) : Int)) (.int .i64 (((kq oL (33 - s)) : Nat) : Int)) (cv_bi (n := (kq oL (33 - s))) (kq_lt _ _)) rfl rfl) <|
                oz (k_mv (.inr rfl) rfl) <|
                ok_nil
              clear h; intro β a w h
              refine sym_then ?_
              refine sym_seq ?_
              refine St.r0 h [(48, .inl (.int .i64 (((33 - s) : Nat) : Int))), (49, .inr (2, pt (33 - s))), (50, .inl (.int .i64 (((kq X (33 - s)) : Nat) : Int))), (51, .inl (.int .i64 (((kq oL (33 - s)) : Nat) : Int))), (52, .inl (.bool true))] [nn, nn, eR 2] ?_ ?_
              · exact oc (k_mv (.inl rfl) rfl) <|
                oc (k_ia 2 0 ((33 - s)) (.int .i64 (((33 - s) : Nat) : Int)) (ix34 (i := (33 - s)) (by omega)) rfl rfl) <|
                oc (k_ld 2 ((33 - s)) (.int .i64 (((kq X (33 - s)) : Nat) : Int)) (c := ai 34 (kq X)) (ld_at (n := 34) (F := (kq X)) (i := (33 - s)) (t0 := 106) (by omega)) rfl rfl) <|
                oz (k_mv (.inl rfl) rfl) <|
                oz (k_bi (.int .i64 (((kq X (33 - s)) : Nat) : Int)) (.int .i64 (((kq oL (33 - s)) : Nat) : Int)) (.bool true) (ne_i (m := (((kq X (33 - s)) : Nat) : Int)) (n := (((kq oL (33 - s)) : Nat) : Int)) (decide_eq_true (by omega))) rfl rfl) <|
                ok_nil
              clear h; intro β a w h
              refine sym_then ?_
              refine s_ct h ?_
              refine sym_seq ?_
              refine St.r0 h [(53, .inl (.int .i64 (((33 - s) : Nat) : Int))), (54, .inr (2, pt (33 - s))), (55, .inl (.int .i64 (((kq X (33 - s)) : Nat) : Int))), (56, .inl (.int .i64 (((kq oL (33 - s)) : Nat) : Int))), (57, .inl (.bool true)), (7, .inl (.bool true))] [nn, nn, eR 2] ?_ ?_
              · exact oc (k_mv (.inl rfl) rfl) <|
                oc (k_ia 2 0 ((33 - s)) (.int .i64 (((33 - s) : Nat) : Int)) (ix34 (i := (33 - s)) (by omega)) rfl rfl) <|
                oc (k_ld 2 ((33 - s)) (.int .i64 (((kq X (33 - s)) : Nat) : Int)) (c := ai 34 (kq X)) (ld_at (n := 34) (F := (kq X)) (i := (33 - s)) (t0 := 106) (by omega)) rfl rfl) <|
                oz (k_mv (.inl rfl) rfl) <|
                oz (k_bi (.int .i64 (((kq X (33 - s)) : Nat) : Int)) (.int .i64 (((kq oL (33 - s)) : Nat) : Int)) (.bool true) (lt_i (m := (((kq X (33 - s)) : Nat) : Int)) (n := (((kq oL (33 - s)) : Nat) : Int)) (decide_eq_true (by have := (be2 hinvs hlts cd).1 hX; omega))) rfl rfl) <|
                oz (k_mv (.inr rfl) rfl) <|
                ok_nil
              clear h; intro β a w h
              refine sym_then ?_
              refine wp_exit ?_
              refine blk_pass (by rfl) ?_
              refine then_exit ?_
              refine then_exit ?_
              refine blk_exit ?_
              obtain ⟨x, h⟩ := St.jn (n := 94) h [0, 2, 3, 4, 5, 6, 7, 15, 16, 17, 18, 19, 20, 23, 24, 33, 34, 35, 36, 37] [.inl (.slice aa len cap), .inr (0, pt 0), .inr (1, pt 0), .inr (2, pt 0), .inl (.int .i64 (((len - 1 - j) : Nat) : Int)), .inl (.int .i64 (dn33 33)), .inl (.bool true), .inl (.agg (ck (kq oL))), .inl (.slice aa len cap), .inl (.int .i64 ((len : Nat) : Int)), .inl (.int .i64 (dnL len 0)), .inl (.int .i64 (((len - 1 - j) : Nat) : Int)), .inl (.bool true), .inl (.int .i64 (dn33 33)), .inl (.bool false), .inl (.slice aa len cap), .inl (.int .i64 (((len - 1 - j) : Nat) : Int)), .inl (.pointer (some ⟨b0, off0 + (len - 1 - j), none⟩)), .inl (.int .i64 (((g (len - 1 - j)) : Nat) : Int)), .inr (2, pt 0)] [(ck (fun _ => 0), 23), (ck (kq oL), 23), (ai 34 (kq X), 106)] (by kernel_rfl) (by kernel_rfl) (by kernel_rfl)
              exact ⟨rfl, x, _, h⟩
            · replace h := St.ss h 8 (.int .i64 (((33 - s) : Nat) : Int)) (v := .int .i64 (dn33 s)) (dn33_v hlts)
              have k0 := kq_oL (k := 33 - s) (by omega)
              refine sym_seq ?_
              refine sym_seq ?_
              refine St.r0 h [(38, .inl (.int .i64 (((33 - s) : Nat) : Int))), (39, .inl (.bool true))] [] ?_ ?_
              · exact oz (k_mv (.inl rfl) rfl) <|
                oz (k_bi (.int .i64 (((33 - s) : Nat) : Int)) (.int .i64 ((0 : Nat) : Int)) (.bool true) (ge_i (m := (((33 - s) : Nat) : Int)) (n := ((0 : Nat) : Int)) (decide_eq_true (by omega))) rfl rfl) <|
                ok_nil
              clear h; intro β a w h
              refine sym_then ?_
              refine s_ct h ?_
              refine wp_skip ?_
              refine sym_then ?_
              refine sym_seq ?_
              refine blk_in ?_
              refine sym_seq ?_
              refine St.r0 h [(9, .inl (.int .i64 ((0 : Nat) : Int)))] [] ?_ ?_
              · exact oz (k_mv (.inr rfl) rfl) <|
                ok_nil
              clear h; intro β a w h
              refine sym_then ?_
              refine sym_seq ?_
              refine sym_seq ?_
              refine St.r0 h [(42, .inl (.int .i64 (((33 - s) : Nat) : Int))), (43, .inl (.bool false))] [] ?_ ?_
              · exact oz (k_mv (.inl rfl) rfl) <|
                oz (k_bi (.int .i64 (((33 - s) : Nat) : Int)) (.int .i64 ((32 : Nat) : Int)) (.bool false) (lt_i (m := (((33 - s) : Nat) : Int)) (n := ((32 : Nat) : Int)) (decide_eq_false (by omega))) rfl rfl) <|
                ok_nil
              clear h; intro β a w h
              refine sym_then ?_
              refine s_cf h ?_
              refine wp_skip ?_
              refine sym_then ?_
              refine sym_seq ?_
              refine St.r0 h [(48, .inl (.int .i64 (((33 - s) : Nat) : Int))), (49, .inr (2, pt (33 - s))), (50, .inl (.int .i64 (((kq X (33 - s)) : Nat) : Int))), (51, .inl (.int .i64 ((0 : Nat) : Int))), (52, .inl (.bool false))] [nn, nn, eR 2] ?_ ?_
              · exact oc (k_mv (.inl rfl) rfl) <|
                oc (k_ia 2 0 ((33 - s)) (.int .i64 (((33 - s) : Nat) : Int)) (ix34 (i := (33 - s)) (by omega)) rfl rfl) <|
                oc (k_ld 2 ((33 - s)) (.int .i64 (((kq X (33 - s)) : Nat) : Int)) (c := ai 34 (kq X)) (ld_at (n := 34) (F := (kq X)) (i := (33 - s)) (t0 := 106) (by omega)) rfl rfl) <|
                oz (k_mv (.inl rfl) rfl) <|
                oz (k_bi (.int .i64 (((kq X (33 - s)) : Nat) : Int)) (.int .i64 ((0 : Nat) : Int)) (.bool false) (ne_i (m := (((kq X (33 - s)) : Nat) : Int)) (n := ((0 : Nat) : Int)) (decide_eq_false (by omega))) rfl rfl) <|
                ok_nil
              clear h; intro β a w h
              refine sym_then ?_
              refine s_cf h ?_
              refine wp_skip ?_
              refine blk_norm ?_
              refine sym_then ?_
              refine St.r0 h [(40, .inl (.int .i64 (((33 - s) : Nat) : Int))), (41, .inl (.int .i64 (dn33 (s + 1)))), (8, .inl (.int .i64 (dn33 (s + 1))))] [eO] ?_ ?_
              · exact oc (k_m0 rfl rfl) <|
                oz (k_bi (.int .i64 (((33 - s) : Nat) : Int)) (.int .i64 ((1 : Nat) : Int)) (.int .i64 (dn33 (s + 1))) (sb_33 hlts) rfl rfl) <|
                oz (k_mv (.inr rfl) rfl) <|
                ok_nil
              clear h; intro β a w h
              obtain ⟨x, h⟩ := St.jn (n := 94) h [0, 2, 3, 4, 5, 6, 7, 8, 15, 16, 17, 18, 19, 20, 23, 24, 33, 34, 35, 36, 37] [.inl (.slice aa len cap), .inr (0, pt 0), .inr (1, pt 0), .inr (2, pt 0), .inl (.int .i64 (((len - 1 - j) : Nat) : Int)), .inl (.int .i64 (dn33 33)), .inl (.bool false), .inl (.int .i64 (dn33 (s + 1))), .inl (.agg (ck (kq oL))), .inl (.slice aa len cap), .inl (.int .i64 ((len : Nat) : Int)), .inl (.int .i64 (dnL len 0)), .inl (.int .i64 (((len - 1 - j) : Nat) : Int)), .inl (.bool true), .inl (.int .i64 (dn33 33)), .inl (.bool false), .inl (.slice aa len cap), .inl (.int .i64 (((len - 1 - j) : Nat) : Int)), .inl (.pointer (some ⟨b0, off0 + (len - 1 - j), none⟩)), .inl (.int .i64 (((g (len - 1 - j)) : Nat) : Int)), .inr (2, pt 0)] [(ck (fun _ => 0), 23), (ck (kq oL), 23), (ai 34 (kq X), 106)] (by kernel_rfl) (by kernel_rfl) (by kernel_rfl)
              exact ⟨hlts, be1 hinvs hlts cd2, x, _, h⟩
            · replace h := St.ss h 8 (.int .i64 (((33 - s) : Nat) : Int)) (v := .int .i64 (dn33 s)) (dn33_v hlts)
              have k0 := kq_oL (k := 33 - s) (by omega)
              have cd := cd2
              refine sym_seq ?_
              refine sym_seq ?_
              refine St.r0 h [(38, .inl (.int .i64 (((33 - s) : Nat) : Int))), (39, .inl (.bool true))] [] ?_ ?_
              · exact oz (k_mv (.inl rfl) rfl) <|
                oz (k_bi (.int .i64 (((33 - s) : Nat) : Int)) (.int .i64 ((0 : Nat) : Int)) (.bool true) (ge_i (m := (((33 - s) : Nat) : Int)) (n := ((0 : Nat) : Int)) (decide_eq_true (by omega))) rfl rfl) <|
                ok_nil
              clear h; intro β a w h
              refine sym_then ?_
              refine s_ct h ?_
              refine wp_skip ?_
              refine sym_then ?_
              refine sym_seq ?_
              refine blk_in ?_
              refine sym_seq ?_
              refine St.r0 h [(9, .inl (.int .i64 ((0 : Nat) : Int)))] [] ?_ ?_
              · exact oz (k_mv (.inr rfl) rfl) <|
                ok_nil
              clear h; intro β a w h
              refine sym_then ?_
              refine sym_seq ?_
              refine sym_seq ?_
              refine St.r0 h [(42, .inl (.int .i64 (((33 - s) : Nat) : Int))), (43, .inl (.bool false))] [] ?_ ?_
              · exact oz (k_mv (.inl rfl) rfl) <|
                oz (k_bi (.int .i64 (((33 - s) : Nat) : Int)) (.int .i64 ((32 : Nat) : Int)) (.bool false) (lt_i (m := (((33 - s) : Nat) : Int)) (n := ((32 : Nat) : Int)) (decide_eq_false (by omega))) rfl rfl) <|
                ok_nil
              clear h; intro β a w h
              refine sym_then ?_
              refine s_cf h ?_
              refine wp_skip ?_
              refine sym_then ?_
              refine sym_seq ?_
              refine St.r0 h [(48, .inl (.int .i64 (((33 - s) : Nat) : Int))), (49, .inr (2, pt (33 - s))), (50, .inl (.int .i64 (((kq X (33 - s)) : Nat) : Int))), (51, .inl (.int .i64 ((0 : Nat) : Int))), (52, .inl (.bool true))] [nn, nn, eR 2] ?_ ?_
              · exact oc (k_mv (.inl rfl) rfl) <|
                oc (k_ia 2 0 ((33 - s)) (.int .i64 (((33 - s) : Nat) : Int)) (ix34 (i := (33 - s)) (by omega)) rfl rfl) <|
                oc (k_ld 2 ((33 - s)) (.int .i64 (((kq X (33 - s)) : Nat) : Int)) (c := ai 34 (kq X)) (ld_at (n := 34) (F := (kq X)) (i := (33 - s)) (t0 := 106) (by omega)) rfl rfl) <|
                oz (k_mv (.inl rfl) rfl) <|
                oz (k_bi (.int .i64 (((kq X (33 - s)) : Nat) : Int)) (.int .i64 ((0 : Nat) : Int)) (.bool true) (ne_i (m := (((kq X (33 - s)) : Nat) : Int)) (n := ((0 : Nat) : Int)) (decide_eq_true (by omega))) rfl rfl) <|
                ok_nil
              clear h; intro β a w h
              refine sym_then ?_
              refine s_ct h ?_
              refine sym_seq ?_
              refine St.r0 h [(53, .inl (.int .i64 (((33 - s) : Nat) : Int))), (54, .inr (2, pt (33 - s))), (55, .inl (.int .i64 (((kq X (33 - s)) : Nat) : Int))), (56, .inl (.int .i64 ((0 : Nat) : Int))), (57, .inl (.bool true)), (7, .inl (.bool true))] [nn, nn, eR 2] ?_ ?_
              · exact oc (k_mv (.inl rfl) rfl) <|
                oc (k_ia 2 0 ((33 - s)) (.int .i64 (((33 - s) : Nat) : Int)) (ix34 (i := (33 - s)) (by omega)) rfl rfl) <|
                oc (k_ld 2 ((33 - s)) (.int .i64 (((kq X (33 - s)) : Nat) : Int)) (c := ai 34 (kq X)) (ld_at (n := 34) (F := (kq X)) (i := (33 - s)) (t0 := 106) (by omega)) rfl rfl) <|
                oz (k_mv (.inl rfl) rfl) <|
                oz (k_bi (.int .i64 (((kq X (33 - s)) : Nat) : Int)) (.int .i64 ((0 : Nat) : Int)) (.bool true) (lt_i (m := (((kq X (33 - s)) : Nat) : Int)) (n := ((0 : Nat) : Int)) (decide_eq_true (by have := (be2 hinvs hlts cd).1 hX; omega))) rfl rfl) <|
                oz (k_mv (.inr rfl) rfl) <|
                ok_nil
              clear h; intro β a w h
              refine sym_then ?_
              refine wp_exit ?_
              refine blk_pass (by rfl) ?_
              refine then_exit ?_
              refine then_exit ?_
              refine blk_exit ?_
              obtain ⟨x, h⟩ := St.jn (n := 94) h [0, 2, 3, 4, 5, 6, 7, 15, 16, 17, 18, 19, 20, 23, 24, 33, 34, 35, 36, 37] [.inl (.slice aa len cap), .inr (0, pt 0), .inr (1, pt 0), .inr (2, pt 0), .inl (.int .i64 (((len - 1 - j) : Nat) : Int)), .inl (.int .i64 (dn33 33)), .inl (.bool true), .inl (.agg (ck (kq oL))), .inl (.slice aa len cap), .inl (.int .i64 ((len : Nat) : Int)), .inl (.int .i64 (dnL len 0)), .inl (.int .i64 (((len - 1 - j) : Nat) : Int)), .inl (.bool true), .inl (.int .i64 (dn33 33)), .inl (.bool false), .inl (.slice aa len cap), .inl (.int .i64 (((len - 1 - j) : Nat) : Int)), .inl (.pointer (some ⟨b0, off0 + (len - 1 - j), none⟩)), .inl (.int .i64 (((g (len - 1 - j)) : Nat) : Int)), .inr (2, pt 0)] [(ck (fun _ => 0), 23), (ck (kq oL), 23), (ai 34 (kq X), 106)] (by kernel_rfl) (by kernel_rfl) (by kernel_rfl)
              exact ⟨rfl, x, _, h⟩
          · obtain rfl : 34 = s := by omega
            refine sym_seq ?_
            refine sym_seq ?_
            refine St.r0 h [(38, .inl (.int .i64 (dn33 34))), (39, .inl (.bool false))] [] ?_ ?_
            · exact oz (k_mv (.inl rfl) rfl) <|
              oz (k_bi (.int .i64 (dn33 34)) (.int .i64 ((0 : Nat) : Int)) (.bool false) (ge_i (m := dn33 34) (n := ((0 : Nat) : Int)) (decide_eq_false (by unfold dn33; omega))) rfl rfl) <|
              ok_nil
            clear h; intro β a w h
            refine sym_then ?_
            refine s_cf h ?_
            refine wp_exit ?_
            refine then_exit ?_
            refine then_exit ?_
            refine blk_exit ?_
            replace h := St.ss h 7 (.bool true) (v := .bool false) (absurd (be3 hinvs) (by omega))
            obtain ⟨x, h⟩ := St.jn (n := 94) h [0, 2, 3, 4, 5, 6, 7, 15, 16, 17, 18, 19, 20, 23, 24, 33, 34, 35, 36, 37] [.inl (.slice aa len cap), .inr (0, pt 0), .inr (1, pt 0), .inr (2, pt 0), .inl (.int .i64 (((len - 1 - j) : Nat) : Int)), .inl (.int .i64 (dn33 33)), .inl (.bool true), .inl (.agg (ck (kq oL))), .inl (.slice aa len cap), .inl (.int .i64 ((len : Nat) : Int)), .inl (.int .i64 (dnL len 0)), .inl (.int .i64 (((len - 1 - j) : Nat) : Int)), .inl (.bool true), .inl (.int .i64 (dn33 33)), .inl (.bool false), .inl (.slice aa len cap), .inl (.int .i64 (((len - 1 - j) : Nat) : Int)), .inl (.pointer (some ⟨b0, off0 + (len - 1 - j), none⟩)), .inl (.int .i64 (((g (len - 1 - j)) : Nat) : Int)), .inr (2, pt 0)] [(ck (fun _ => 0), 23), (ck (kq oL), 23), (ai 34 (kq X), 106)] (by kernel_rfl) (by kernel_rfl) (by kernel_rfl)
            exact ⟨rfl, x, _, h⟩
        clear h; rintro a w ⟨x, β, h⟩
        refine sym_seq ?_
        refine sym_seq ?_
        refine St.r0 h [(58, .inl (.bool true))] [] ?_ ?_
        · exact oz (k_mv (.inl rfl) rfl) <|
          ok_nil
        clear h; intro β a w h
        refine sym_then ?_
        refine s_ct h ?_
        refine wp_exit ?_
        refine then_exit ?_
        refine blk_pass (by rfl) ?_
        refine then_exit ?_
        refine blk_exit ?_
        refine blk_norm ?_
        refine sym_then ?_
        refine St.r0 h [(21, .inl (.int .i64 (((len - 1 - j) : Nat) : Int))), (22, .inl (.int .i64 (dnL len (j + 1)))), (5, .inl (.int .i64 (dnL len (j + 1))))] [eO] ?_ ?_
        · exact oc (k_m0 rfl rfl) <|
          oz (k_bi (.int .i64 (((len - 1 - j) : Nat) : Int)) (.int .i64 ((1 : Nat) : Int)) (.int .i64 (dnL len (j + 1))) (sb_L hltj hm) rfl rfl) <|
          oz (k_mv (.inr rfl) rfl) <|
          ok_nil
        clear h; intro β a w h
        replace h := St.sm h 2 (ai 34 (kq (nB g len / 256 ^ (len - (j + 1)) % oL))) (c := ai 34 (kq X)) (t := 106) (r_next hb.1 hltj hR hM hXe)
        obtain ⟨x, h⟩ := St.jn (n := 94) h [0, 2, 3, 4, 5, 15, 16, 17, 18] [.inl (.slice aa len cap), .inr (0, pt 0), .inr (1, pt 0), .inr (2, pt 0), .inl (.int .i64 (dnL len (j + 1))), .inl (.agg (ck (kq oL))), .inl (.slice aa len cap), .inl (.int .i64 ((len : Nat) : Int)), .inl (.int .i64 (dnL len 0))] [(ck (fun _ => 0), 23), (ck (kq oL), 23), (ai 34 (kq (nB g len / 256 ^ (len - (j + 1)) % oL)), 106)] (by kernel_rfl) (by kernel_rfl) (by kernel_rfl)
        exact ⟨hltj, x, _, h⟩
  · obtain rfl : len = j := by omega
    refine sym_seq ?_
    refine sym_seq ?_
    refine St.r0 h [(19, .inl (.int .i64 (dnL len len))), (20, .inl (.bool false))] [] ?_ ?_
    · exact oz (k_mv (.inl rfl) rfl) <|
      oz (k_bi (.int .i64 (dnL len len)) (.int .i64 ((0 : Nat) : Int)) (.bool false) (ge_i (m := dnL len len) (n := ((0 : Nat) : Int)) (decide_eq_false (by unfold dnL; omega))) rfl rfl) <|
      ok_nil
    clear h; intro β a w h
    refine sym_then ?_
    refine s_cf h ?_
    refine wp_exit ?_
    refine then_exit ?_
    refine then_exit ?_
    refine blk_exit ?_
    refine sym_then ?_
    refine sym_seq ?_
    refine St.rg h [(13, .inr (3, pt 0))] [(ck (fun _ => 0), 23)] [] [eN 3] ?_ ?_
    · exact oc (k_al 3 alK rfl rfl) <|
      ok_nil
    clear h; intro β a w h
    refine sym_then ?_
    refine sym_seq ?_
    refine sym_seq ?_
    refine St.r0 h [(14, .inl (.int .i64 ((0 : Nat) : Int)))] [] ?_ ?_
    · exact oz (k_mv (.inr rfl) rfl) <|
      ok_nil
    clear h; intro β a w h
    refine sym_then ?_
    refine blk_in ?_
    replace h := St.sm h 3 (ck (kF (nB g len / 256 ^ (len - len) % oL) 0)) (c := ck (fun _ => 0)) (t := 23) (kF_0 (nB g len / 256 ^ (len - len) % oL))
    obtain ⟨x, h⟩ := St.jn (n := 94) h [0, 2, 3, 4, 5, 13, 14, 15, 16, 17, 18, 19, 20] [.inl (.slice aa len cap), .inr (0, pt 0), .inr (1, pt 0), .inr (2, pt 0), .inl (.int .i64 (dnL len len)), .inr (3, pt 0), .inl (.int .i64 ((0 : Nat) : Int)), .inl (.agg (ck (kq oL))), .inl (.slice aa len cap), .inl (.int .i64 ((len : Nat) : Int)), .inl (.int .i64 (dnL len 0)), .inl (.int .i64 (dnL len len)), .inl (.bool false)] [(ck (fun _ => 0), 23), (ck (kq oL), 23), (ai 34 (kq (nB g len / 256 ^ (len - len) % oL)), 106), (ck (kF (nB g len / 256 ^ (len - len) % oL) 0), 23)] (by kernel_rfl) (by kernel_rfl) (by kernel_rfl)
    refine loop_up 32 (fun m a w => ∃ (x : Nat → SV) (β : Nat → Nat), St (wd W0) (ov (jk 94 x) ([0, 2, 3, 4, 5, 13, 14, 15, 16, 17, 18, 19, 20].zip [.inl (.slice aa len cap), .inr (0, pt 0), .inr (1, pt 0), .inr (2, pt 0), .inl (.int .i64 (dnL len len)), .inr (3, pt 0), .inl (.int .i64 ((m : Nat) : Int)), .inl (.agg (ck (kq oL))), .inl (.slice aa len cap), .inl (.int .i64 ((len : Nat) : Int)), .inl (.int .i64 (dnL len 0)), .inl (.int .i64 (dnL len len)), .inl (.bool false)])) [(ck (fun _ => 0), 23), (ck (kq oL), 23), (ai 34 (kq (nB g len / 256 ^ (len - len) % oL)), 106), (ck (kF (nB g len / 256 ^ (len - len) % oL) m), 23)] β a w) ⟨x, _, h⟩ ?_
    clear h; rintro m a w hkm ⟨x, β, h⟩
    rcases Nat.lt_or_ge m 32 with hltm | hgem
    · refine sym_seq ?_
      refine sym_seq ?_
      refine St.r0 h [(83, .inl (.int .i64 ((m : Nat) : Int))), (84, .inl (.bool true))] [] ?_ ?_
      · exact oz (k_mv (.inl rfl) rfl) <|
        oz (k_bi (.int .i64 ((m : Nat) : Int)) (.int .i64 ((32 : Nat) : Int)) (.bool true) (lt_i (m := ((m : Nat) : Int)) (n := ((32 : Nat) : Int)) (decide_eq_true (by omega))) rfl rfl) <|
        ok_nil
      clear h; intro β a w h
      refine sym_then ?_
      refine s_ct h ?_
      refine wp_skip ?_
      refine sym_then ?_
      refine sym_seq ?_
      refine blk_in ?_
      refine St.rg h [(87, .inl (.int .i64 ((m : Nat) : Int))), (88, .inl (.int .i64 ((m : Nat) : Int))), (89, .inr (2, pt m)), (90, .inl (.int .i64 (((kq (nB g len / 256 ^ (len - len) % oL) m) : Nat) : Int))), (91, .inl (.int .u8 ((((kq (nB g len / 256 ^ (len - len) % oL) m) % 256) : Nat) : Int))), (92, .inr (3, pt m))] [] [(3, ck (updN (kF (nB g len / 256 ^ (len - len) % oL) m) m ((kq (nB g len / 256 ^ (len - len) % oL) m) % 256)))] [nn, nn, nn, eR 2, nn, nn, eS 3] ?_ ?_
      · exact oc (k_mv (.inl rfl) rfl) <|
        oc (k_mv (.inl rfl) rfl) <|
        oc (k_ia 2 0 m (.int .i64 ((m : Nat) : Int)) (ix34 (i := m) (by omega)) rfl rfl) <|
        oc (k_ld 2 m (.int .i64 (((kq (nB g len / 256 ^ (len - len) % oL) m) : Nat) : Int)) (c := ai 34 (kq (nB g len / 256 ^ (len - len) % oL))) (ld_at (n := 34) (F := (kq (nB g len / 256 ^ (len - len) % oL))) (i := m) (t0 := 106) (by omega)) rfl rfl) <|
        oc (k_co (.int .i64 (((kq (nB g len / 256 ^ (len - len) % oL) m) : Nat) : Int)) (.int .u8 ((((kq (nB g len / 256 ^ (len - len) % oL) m) % 256) : Nat) : Int)) (cv_ib8 (n := (kq (nB g len / 256 ^ (len - len) % oL) m))) rfl rfl) <|
        oc (k_ia 3 0 m (.int .i64 ((m : Nat) : Int)) (ixK (i := m) (by omega)) rfl rfl) <|
        oc (k_st 3 m (.int .u8 ((((kq (nB g len / 256 ^ (len - len) % oL) m) % 256) : Nat) : Int)) (c := ck (kF (nB g len / 256 ^ (len - len) % oL) m)) (n := ck (updN (kF (nB g len / 256 ^ (len - len) % oL) m) m ((kq (nB g len / 256 ^ (len - len) % oL) m) % 256))) (st_k (F := (kF (nB g len / 256 ^ (len - len) % oL) m)) (i := m) (v := ((kq (nB g len / 256 ^ (len - len) % oL) m) % 256)) (t0 := 23) (by omega)) rfl rfl) <|
        ok_nil
      clear h; intro β a w h
      refine blk_norm ?_
      refine sym_then ?_
      refine St.r0 h [(85, .inl (.int .i64 ((m : Nat) : Int))), (86, .inl (.int .i64 (((m + 1) : Nat) : Int))), (14, .inl (.int .i64 (((m + 1) : Nat) : Int)))] [eO] ?_ ?_
      · exact oc (k_m0 rfl rfl) <|
        oz (k_bi (.int .i64 ((m : Nat) : Int)) (.int .i64 ((1 : Nat) : Int)) (.int .i64 (((m + 1) : Nat) : Int)) (ad_i (m := m) (n := 1) (by omega)) rfl rfl) <|
        oz (k_mv (.inr rfl) rfl) <|
        ok_nil
      clear h; intro β a w h
      replace h := St.sm h 3 (ck (kF (nB g len / 256 ^ (len - len) % oL) (m + 1))) (c := ck (updN (kF (nB g len / 256 ^ (len - len) % oL) m) m ((kq (nB g len / 256 ^ (len - len) % oL) m) % 256))) (t := 23) (kF_nextR (nB g len / 256 ^ (len - len) % oL) m)
      obtain ⟨x, h⟩ := St.jn (n := 94) h [0, 2, 3, 4, 5, 13, 14, 15, 16, 17, 18, 19, 20] [.inl (.slice aa len cap), .inr (0, pt 0), .inr (1, pt 0), .inr (2, pt 0), .inl (.int .i64 (dnL len len)), .inr (3, pt 0), .inl (.int .i64 (((m + 1) : Nat) : Int)), .inl (.agg (ck (kq oL))), .inl (.slice aa len cap), .inl (.int .i64 ((len : Nat) : Int)), .inl (.int .i64 (dnL len 0)), .inl (.int .i64 (dnL len len)), .inl (.bool false)] [(ck (fun _ => 0), 23), (ck (kq oL), 23), (ai 34 (kq (nB g len / 256 ^ (len - len) % oL)), 106), (ck (kF (nB g len / 256 ^ (len - len) % oL) (m + 1)), 23)] (by kernel_rfl) (by kernel_rfl) (by kernel_rfl)
      exact ⟨hltm, x, _, h⟩
    · obtain rfl : 32 = m := by omega
      refine sym_seq ?_
      refine sym_seq ?_
      refine St.r0 h [(83, .inl (.int .i64 ((32 : Nat) : Int))), (84, .inl (.bool false))] [] ?_ ?_
      · exact oz (k_mv (.inl rfl) rfl) <|
        oz (k_bi (.int .i64 ((32 : Nat) : Int)) (.int .i64 ((32 : Nat) : Int)) (.bool false) (lt_i (m := ((32 : Nat) : Int)) (n := ((32 : Nat) : Int)) (decide_eq_false (by omega))) rfl rfl) <|
        ok_nil
      clear h; intro β a w h
      refine sym_then ?_
      refine s_cf h ?_
      refine wp_exit ?_
      refine then_exit ?_
      refine then_exit ?_
      refine blk_exit ?_
      refine sym_then ?_
      refine sym_seq ?_
      refine St.rg h [(93, .inl (.agg (ck (kF (nB g len / 256 ^ (len - len) % oL) 32))))] [] [(0, ck (kF (nB g len / 256 ^ (len - len) % oL) 32))] [eR 3, eS 0] ?_ ?_
      · exact oc (k_ld 3 0 (.agg (ck (kF (nB g len / 256 ^ (len - len) % oL) 32))) (c := ck (kF (nB g len / 256 ^ (len - len) % oL) 32)) (ldK (b := (kF (nB g len / 256 ^ (len - len) % oL) 32)) 23) rfl rfl) <|
        oc (k_st 0 0 (.agg (ck (kF (nB g len / 256 ^ (len - len) % oL) 32))) (c := ck (fun _ => 0)) (n := ck (kF (nB g len / 256 ^ (len - len) % oL) 32)) (stK (F := (kF (nB g len / 256 ^ (len - len) % oL) 32)) (c := ck (fun _ => 0)) 23 (ck_size _)) rfl rfl) <|
        ok_nil
      clear h; intro β a w h
      refine sym_then ?_
      refine wp_ret ?_
      exact s_rc (b := 0) (t0 := 23) (c := ck (kF (nB g len / 256 ^ (len - len) % oL) 32)) h Try.results54 Try.underlying23 (fun hb => ⟨rfl, hb⟩) (by rw [ck_size]; kernel_rfl)
theorem rest_L {aa : Option Addr} {len cap : Nat} {g : Nat → Nat} (hm : len ≤ 1000) (W0 : World) (hb : Bi W0 aa len g) : Calls Try.prog 54 #[.slice aa len cap] W0 fun e w' => e = .returned (.agg (ck (kq (nB g len % oL)))) ∧ Below W0.heap.size W0 w' := by
  have h := rest_w (cap := cap) hm W0 hb
  rwa [Nat.sub_self, Nat.pow_zero, Nat.div_one] at h
end Go.Proofs.Ytpogmflgmpifoaa

namespace Go.Proofs.Ytpogmflgmpifoaa
open Go.RowKit Go.Shelf
def ivs (f : Nat → Nat) (k : Nat) : List Value := (List.range k).map fun i => .int .i64 ((f i : Nat) : Int)
theorem ivs_succ (f : Nat → Nat) (k : Nat) : ivs f (k + 1) = ivs f k ++ [.int .i64 ((f k : Nat) : Int)] := by simp [ivs, List.range_succ]
theorem bi_owned {w : World} {base : Nat} {v : Value} {n : Nat} {f : Nat → Nat} (hf : ∀ i, f i < 256) (h : w.ownsRow base 3 1 v n (ivs f n)) : ∃ a cap, v = .slice a n cap ∧ Bi w a n f := by
  rcases h.2 with ⟨rfl, rfl⟩ | ⟨g, cap, cur, rfl, hb, hg, hnc, hcm, hcs, ht⟩
  · exact ⟨none, 0, rfl, hf, fun h => absurd h (by omega)⟩
  · refine ⟨_, cap, rfl, hf, fun _ => ⟨g, 0, rfl, fun i hi => ?_⟩⟩
    have := h.cellAt i (by omega)
    rw [Nat.zero_add, this]
    simp [ivs, hi]
theorem infoI : (Try.prog.info? 3).map (fun i => (i.zero, i.size, i.bytes)) = some (some (.int .i64 0), 1, 8) := by kernel_rfl
set_option maxRecDepth 100000 in
theorem wpList_append_iv {w : World} {ops : Array Oper} {rest : List Oper} {o : Oper} {a : Act} {Q : Exit → Act → World → Prop} (hgd : o.guard = none) (s x : Operand)
    (ho : o.op = .call { callee := .builtin .append, args := #[s, x], argTypes := #[86, 86] }) (base : Nat)
    (v : Value) (n : Nat) (xs : List Value) (hs : a.eval s = v) (hown : w.ownsRow base 3 1 v n xs) (g : Nat) (u : Value) (hx : a.eval x = .slice (some ⟨g, 0, none⟩) 1 1) (hu : w.cell? ⟨g, 0, none⟩ = some u) (h1 : u.oneCell' = true)
    (hbytes : n ≤ 1000) (hbase : base ≤ w.heap.size)
    (h : ∀ v' w', w'.ownsRow base 3 1 v' (n + 1) (xs ++ [u]) → w.grownBy w' v.ownBlock → wpList Try.prog ops Q rest (a.put o.dst v') w') : wpList Try.prog ops Q (o :: rest) a w := by
  obtain ⟨i0, hi, hz0, hz1, hz2⟩ := info_parts infoI
  refine wpList_append_own_at w hgd s x 86 ho base 3 i0 _ 1 8 Try.underlying86 hi hz0 hz1 hz2 rfl (by omega) v n xs hs hown ⟨g, 0, none⟩ 1 1 [u] hx rfl ?_ (by simpa using h1) (by unfold maxLen; omega) (by omega) hbase (fun v' w' h2 h3 _ _ => h v' w' h2 h3)
  intro j u' hj
  match j, hj with
  | 0, hj => simp at hj; subst hj; exact hu
theorem below_app1 {B : Nat} {w wr w' : World} {v : Value} {n : Nat} {xs : List Value} {o : Obj} (hb : Below B w wr) (hB : B ≤ w.heap.size) (hown : wr.ownsRow B 3 1 v n xs) (hg : (wr.alloc o).grownBy w' v.ownBlock) : Below B w w' :=
  (hb.alloc (Nat.le_trans hB hb.size) o).grown hg (by have := hb.size; simp; omega) (fun k e => (hown.lt k e).1)
theorem below_of1 {W0 wr : World} {o : Obj} (h : Below (W0.heap.size + 1) (W0.alloc o) wr) : Below W0.heap.size W0 wr :=
  ((Below.refl _ _).alloc (Nat.le_refl _) o).trans (h.mono (by omega))
set_option maxRecDepth 100000 in
set_option maxHeartbeats 4000000 in
theorem residue_R {aa : Option Addr} {len cap : Nat} {f : Nat → Nat} (hm : len ≤ 1000) (W0 : World) (hb : Bs W0 aa len f) : Calls Try.prog 22 #[.slice aa len cap] W0 fun e w' => e = .returned (.agg (ck (kq (nB f len % oL)))) ∧ Below W0.heap.size W0 w' := by
  have hstart : (W0.alloc (.cells (ck fun _ => 0) 23)).ownsRow (W0.heap.size + 1) 3 1 (.slice none 0 0) 0 (ivs f 0) := ⟨rfl, .inl ⟨rfl, rfl⟩⟩
  have hl0 : Below (W0.heap.size + 1) (W0.alloc (.cells (ck fun _ => 0) 23)) (W0.alloc (.cells (ck fun _ => 0) 23)) := Below.refl _ _
  go_enter Try.func22, Try.ntmps22
  go_wp2
  go_loopw [3, 4] (fun v i wr => ∃ k : Nat, k ≤ len ∧ i = .int .i64 k ∧ wr.ownsRow (W0.heap.size + 1) 3 1 v k (ivs f k) ∧ Below (W0.heap.size + 1) (W0.alloc (.cells (ck fun _ => 0) 23)) wr)
    (fun _ i _ => len - (intOf i).toNat)
  case atStart => exact ⟨0, by omega, rfl, hstart, hl0⟩
  case round =>
    clear hstart hl0
    obtain ⟨k, hk, rfl, hown, hbel⟩ := hrel
    by_cases hlt : k < len
    · obtain ⟨p0, q0, rfl, hcell0⟩ := hb.2 (by omega)
      have hb1 := below_of1 hbel
      have hx0 := cell_later hb1 (hcell0 k (by omega))
      have hfk := hb.1 k
      have hS := hide1 (ivs_succ f k)
      clear hcell0 hb1
      have hsz : W0.heap.size + 1 ≤ wr.heap.size := by have := hbel.size; simpa using this
      generalize f k = x at *
      generalize ivs f k = X at *
      go_wp2_with (at_builtin; refine wpList_append_iv rfl (.tmp 11) (.tmp 17) rfl (W0.heap.size + 1) _ k X rfl (hown.alloc _) wr.heap.size (.int .i64 ((x : Nat) : Int)) rfl (by rw [World.cell?_alloc_mark]; rfl) rfl (by omega) (by simp; omega) ?_; intro v' w' hown' hg')
      have hb' := below_app1 hbel (by simp) hown hg'
      clear hg' hown
      go_roundw
      case rel => exact ⟨k + 1, by omega, by go_num, by rw [hS.out]; exact hown', hb'⟩
      case measure => simp [intOf]; omega
    · obtain rfl : k = len := by omega
      obtain ⟨a1, cap1, rfl, hbi⟩ := bi_owned hb.1 hown
      have hr : wr.heap[W0.heap.size]? = some (.cells (ck fun _ => 0) 23 (0, 0)) := by rw [hbel.block _ (by omega)]; exact row1_0 _ _
      go_wp2_with fail
      refine (rest_L hm wr hbi).mono ?_
      rintro e w1 ⟨rfl, h1⟩
      have hr1 := row_below hr h1
      have hb2 := (below_of1 hbel).trans (h1.mono (below_of1 hbel).size)
      clear h1 hr hbel hbi hown
      go_wp2_with (refine wpList_store_row rfl 23 (.tmp 2) (.tmp 20) rfl W0.heap.size (ck (kq (nB f k % oL))) (ck fun _ => 0) 23 rfl rfl (by rw [ck_size]; kernel_rfl) hr1 (by rw [ck_size, ck_size]) (ck_one _) rfl ?_)
      exact bodyPost_ret (v := .agg (ck (kq (nB f k % oL)))) (results_row rfl _ rfl Try.underlying23 (by rw [ck_size]; kernel_rfl) (setRow_heap _ _ _ _ _ _ hr1)) rfl ⟨rfl, below_setRow hb2 (by omega) _⟩
end Go.Proofs.Ytpogmflgmpifoaa

namespace Go.Proofs.Ytpogmflgmpifoaa
open Go.RowKit Go.Shelf

theorem pvq_nB (F : Nat → Nat) : ∀ k, pvq F k = nB F k
  | 0 => rfl
  | k + 1 => by show pvq F k + _ = nB F k + _; rw [pvq_nB F k]
theorem nB_kq {X : Nat} (h : X < oL) : nB (kq X) 32 = X := by
  rw [← pvq_nB, pv_dgq, Nat.mod_eq_of_lt (Nat.lt_trans h oL_32)]
theorem least_own {X : Nat} (h : X < oL) : ∀ i, i < 32 → kq (nB (kq X) 32 % oL) i = kq X i := fun i _ => by
  rw [nB_kq h, Nat.mod_eq_of_lt h]
set_option maxRecDepth 100000 in
theorem neK_0 {x u : Operand} {F G : Nat → Nat} (h : ∀ i, i < 32 → F i = G i) (w : World) : (do eqGuard .neq 23 x u (.agg (ck F)) (.agg (ck G)); binOp .neq 23 (.agg (ck F)) (.agg (ck G))).run Try.prog w = .ok (.bool false) w := by
  have h1 := eq_ints (P := Try.prog) (t := 23) (e := 5) (n := 32) (k := .u8) (k' := .u8) Try.underlying23 (inf := _) rfl (by kernel_rfl) Try.underlying5 (fun _ => by kernel_rfl) (ck F) (ck G) (fun i => (F i : Int)) (fun i => (G i : Int)) (fun i hi => arr_get _ _ _ hi) (fun i hi => arr_get _ _ _ hi) w
  rw [decide_eq_true (fun i hi => by rw [h i hi])] at h1
  simp [eqGuard, binOp, go_sem, Op.equal, Op.maxDepth, h1]
theorem go_st1 {W0 w' : World} {Q : Exit → Act → World → Prop} {a' : Act} (cc : Array Value) (t0 : TypeId) (q : Nat) (s' : List SV) (hb : Below W0.heap.size W0 w') (hq : W0.heap.size ≤ q) (hr : w'.heap[q]? = some (.cells cc t0 (0, 0))) (hk : ∀ β a w, St (wd W0) s' [(cc, t0)] β a w → Q .normal a w)
    (ha : a' = { tmps := (s'.map (den fun _ => q)).toArray, defers := [] } := by kernel_rfl) (hl : liveB s' 1 = true := by kernel_rfl) : Q .normal a' w' := by
  refine hk (fun _ => q) a' w' ⟨ha, kw_of hb, ?_, ?_, ?_, live_of hl⟩
  · intro b c hc
    match b, hc with
    | 0, hc => cases hc; exact hr
    | b + 1, hc => simp at hc
  · intro b _ hS
    exact absurd hS (Nat.not_lt_of_le hq)
  · intro b c hb hc _
    simp at hb hc; omega
/-- Bytes that came in. -/
theorem bs_ints {w : World} {x : Addr} {len : Nat} {zs : List Int} (hl : len ≤ zs.length) (hcell : ∀ i, i < zs.length → w.cell? (x.add i) = some (.int .u8 (zs.getD i 0))) (hwz : ∀ n ∈ zs, (Lit.int .u8 n).wf = true) : ∃ f, Bs w (some x) len f := by
  have hby : ∀ i, i < zs.length → 0 ≤ zs.getD i 0 ∧ zs.getD i 0 < 256 := by
    intro i hi
    have hm : zs.getD i 0 ∈ zs := by rw [List.getD_eq_getElem?_getD, List.getElem?_eq_getElem hi]; exact List.getElem_mem hi
    have := hwz _ hm
    simp only [Lit.wf, Bool.and_eq_true, decide_eq_true_eq] at this
    have e1 : IntKind.u8.min = 0 := rfl
    have e2 : IntKind.u8.max = 255 := rfl
    omega
  refine ⟨fun i => (zs.getD i 0).toNat % 256, fun i => Nat.mod_lt _ (by omega), fun hp => ?_⟩
  obtain ⟨b, off, spot⟩ := x
  have hc := hcell 0 (by omega)
  have hspot : spot = none := by simpa [Addr.add] using World.cell?_spot hc
  subst hspot
  refine ⟨b, off, rfl, fun i hi => ?_⟩
  have h1 := hcell i (by omega)
  rw [Addr.add_lit] at h1
  rw [h1]
  show _ = some (Value.int .u8 (((zs.getD i 0).toNat % 256 : Nat) : Int))
  have h2 := hby i (by omega)
  generalize zs.getD i 0 = z at *
  have h3 : ((z.toNat % 256 : Nat) : Int) = z := by omega
  rw [h3]
theorem bs_nil (w : World) : ∃ f, Bs w none 0 f := ⟨fun _ => 0, fun _ => (by decide : 0 < 256), fun h => absurd h (by omega)⟩
theorem bs_five (w : World) : Bs (w.alloc (.cells #[.int .u8 5] 5)) (some ⟨w.heap.size, 0, none⟩) 1 (kl0 [5]) :=
  ⟨fun i => by
    unfold kl0
    rcases i with _ | i
    · decide
    · show (0 : Nat) < 256; omega, fun _ => ⟨w.heap.size, 0, rfl, fun i hi => by
    obtain rfl : i = 0 := by omega
    rw [World.cell?_alloc_mark]; rfl⟩⟩
end Go.Proofs.Ytpogmflgmpifoaa

namespace Go.Proofs.Ytpogmflgmpifoaa
open Go.RowKit Go.Shelf

def rwJ (a b c F : Nat → Nat) (i : Nat) : Nat → Nat → Nat
  | 0 => updN F i (F i + c i)
  | j + 1 => updN (rwJ a b c F i j) (i + j) (rwJ a b c F i j (i + j) + a i * b j)
def tbI (a b c : Nat → Nat) : Nat → Nat → Nat
  | 0 => fun _ => 0
  | i + 1 => rwJ a b c (tbI a b c i) i 32
def cst (F : Nat → Nat) : Nat → Nat → Nat
  | 0 => F
  | k + 1 => updN (updN (cst F k) (k + 1) (cst F k (k + 1) + cst F k k / 256)) k (updN (cst F k) (k + 1) (cst F k (k + 1) + cst F k k / 256) k % 256)
theorem nB_upd (F : Nat → Nat) (k v : Nat) : ∀ n, k < n → nB (updN F k v) n + F k * 256 ^ k = nB F n + v * 256 ^ k := by
  intro n
  induction n with
  | zero => intro h; omega
  | succ n ih =>
    intro h
    show nB (updN F k v) n + updN F k v n * 256 ^ n + F k * 256 ^ k = nB F n + F n * 256 ^ n + v * 256 ^ k
    by_cases e : k = n
    · subst e
      have e1 : ∀ m, m ≤ k → nB (updN F k v) m = nB F m := by
        intro m
        induction m with
        | zero => intro _; rfl
        | succ m ihm =>
          intro hm
          show nB (updN F k v) m + updN F k v m * 256 ^ m = nB F m + F m * 256 ^ m
          rw [ihm (by omega)]
          have : updN F k v m = F m := by unfold updN; rw [if_neg (by omega)]
          rw [this]
      have e2 : updN F k v k = v := by unfold updN; rw [if_pos rfl]
      rw [e1 k (Nat.le_refl _), e2]
      generalize F k * 256 ^ k = x
      generalize v * 256 ^ k = y
      omega
    · have e2 : updN F k v n = F n := by unfold updN; rw [if_neg (by omega)]
      have := ih (by omega)
      rw [e2]
      generalize F k * 256 ^ k = x at *
      generalize v * 256 ^ k = y at *
      generalize F n * 256 ^ n = z at *
      omega
theorem nB_add (F : Nat → Nat) {k v n : Nat} (h : k < n) : nB (updN F k (F k + v)) n = nB F n + v * 256 ^ k := by
  have := nB_upd F k (F k + v) n h
  rw [Nat.add_mul] at this
  generalize F k * 256 ^ k = x at *
  generalize v * 256 ^ k = y at *
  omega
theorem rwJ_val (a b c F : Nat → Nat) {i : Nat} (hi : i < 32) : ∀ j, j ≤ 32 → nB (rwJ a b c F i j) 67 = nB F 67 + c i * 256 ^ i + a i * 256 ^ i * nB b j := by
  intro j
  induction j with
  | zero =>
    intro _
    show nB (updN F i (F i + c i)) 67 = _
    rw [nB_add F (by omega)]
    show _ = _ + _ + a i * 256 ^ i * 0
    rw [Nat.mul_zero, Nat.add_zero]
  | succ j ih =>
    intro hj
    show nB (updN (rwJ a b c F i j) (i + j) (rwJ a b c F i j (i + j) + a i * b j)) 67 = _ + _ + a i * 256 ^ i * (nB b j + b j * 256 ^ j)
    rw [nB_add _ (by omega), ih (by omega), Nat.mul_add]
    have e : a i * b j * 256 ^ (i + j) = a i * 256 ^ i * (b j * 256 ^ j) := by
      rw [Nat.pow_add, Nat.mul_assoc, Nat.mul_assoc, Nat.mul_left_comm (b j)]
    rw [e]
    simp only [Nat.add_assoc]
theorem tbI_val (a b c : Nat → Nat) : ∀ n, n ≤ 32 → nB (tbI a b c n) 67 = nB c n + nB a n * nB b 32 := by
  intro n
  induction n with
  | zero =>
    intro _
    have e : ∀ m, nB (fun _ => 0) m = 0 := by
      intro m
      induction m with
      | zero => rfl
      | succ m ih => show nB (fun _ => 0) m + 0 * 256 ^ m = 0; rw [ih, Nat.zero_mul]
    show nB (fun _ => 0) 67 = 0 + 0 * _
    rw [e, Nat.zero_mul]
  | succ n ih =>
    intro hn
    show nB (rwJ a b c (tbI a b c n) n 32) 67 = nB c n + c n * 256 ^ n + (nB a n + a n * 256 ^ n) * nB b 32
    rw [rwJ_val a b c _ (by omega) 32 (Nat.le_refl _), ih (by omega), Nat.add_mul]
    generalize nB a n * nB b 32 = x
    generalize c n * 256 ^ n = y
    generalize a n * 256 ^ n * nB b 32 = z
    omega
theorem prod_le {x y : Nat} (hx : x < 256) (hy : y < 256) : x * y ≤ 65025 := by
  have h : x * y ≤ 255 * 255 := Nat.mul_le_mul (Nat.le_of_lt_succ hx) (Nat.le_of_lt_succ hy)
  omega
theorem rwJ_le {a b c F : Nat → Nat} {M : Nat} (ha : ∀ i, a i < 256) (hb : ∀ i, b i < 256) (hc : ∀ i, c i < 256) (hF : ∀ p, F p ≤ M) (i : Nat) : ∀ j p, rwJ a b c F i j p ≤ M + 255 + j * 65025 := by
  intro j
  induction j with
  | zero =>
    intro p
    show updN F i (F i + c i) p ≤ _
    have := hF p; have := hF i; have := hc i
    unfold updN; split <;> omega
  | succ j ih =>
    intro p
    show updN (rwJ a b c F i j) (i + j) (rwJ a b c F i j (i + j) + a i * b j) p ≤ _
    have h1 := ih p; have h2 := ih (i + j); have h3 := prod_le (ha i) (hb j)
    generalize a i * b j = x at *
    rw [Nat.succ_mul]
    generalize rwJ a b c F i j = G at *
    clear ih ha hb hc hF
    unfold updN; split
    · exact Nat.le_trans (Nat.add_le_add h2 h3) (by rw [Nat.add_assoc (M + 255)]; exact Nat.le_refl _)
    · exact Nat.le_trans h1 (Nat.add_le_add_left (Nat.le_add_right _ _) _)
theorem tbI_le {a b c : Nat → Nat} (ha : ∀ i, a i < 256) (hb : ∀ i, b i < 256) (hc : ∀ i, c i < 256) : ∀ n p, tbI a b c n p ≤ n * 2081055 := by
  intro n
  induction n with
  | zero => intro p; show 0 ≤ _; omega
  | succ n ih =>
    intro p
    have := rwJ_le ha hb hc ih n 32 p
    show rwJ a b c (tbI a b c n) n 32 p ≤ _
    omega
theorem cst_le {F : Nat → Nat} {M : Nat} (hF : ∀ p, F p ≤ M) : ∀ k, cst F k k ≤ 2 * M ∧ ∀ p, k < p → cst F k p ≤ M := by
  intro k
  induction k with
  | zero => exact ⟨by have := hF 0; show F 0 ≤ _; omega, fun p _ => hF p⟩
  | succ k ih =>
    obtain ⟨h1, h2⟩ := ih
    have h3 := h2 (k + 1) (by omega)
    constructor
    · show updN (updN (cst F k) (k + 1) _) k _ (k + 1) ≤ _
      unfold updN
      rw [if_neg (by omega), if_pos rfl]
      omega
    · intro p hp
      show updN (updN (cst F k) (k + 1) _) k _ p ≤ _
      unfold updN
      rw [if_neg (by omega), if_neg (by omega)]
      exact h2 p (by omega)
theorem cst_lt (F : Nat → Nat) : ∀ k i, i < k → cst F k i < 256 := by
  intro k
  induction k with
  | zero => intro i h; omega
  | succ k ih =>
    intro i hi
    show updN (updN (cst F k) (k + 1) _) k _ i < _
    unfold updN
    by_cases e : i = k
    · rw [if_pos e]; exact Nat.mod_lt _ (by omega)
    · rw [if_neg e, if_neg (by omega)]; exact ih i (by omega)
theorem cst_val (F : Nat → Nat) : ∀ k, k ≤ 66 → nB (cst F k) 67 = nB F 67 := by
  intro k
  induction k with
  | zero => intro _; rfl
  | succ k ih =>
    intro hk
    show nB (updN (updN (cst F k) (k + 1) (cst F k (k + 1) + cst F k k / 256)) k (updN (cst F k) (k + 1) (cst F k (k + 1) + cst F k k / 256) k % 256)) 67 = _
    have h0 := ih (by omega)
    have h1 := nB_add (cst F k) (k := k + 1) (v := cst F k k / 256) (n := 67) (by omega)
    have h2 : updN (cst F k) (k + 1) (cst F k (k + 1) + cst F k k / 256) k = cst F k k := by unfold updN; rw [if_neg (by omega)]
    have h3 := nB_upd (updN (cst F k) (k + 1) (cst F k (k + 1) + cst F k k / 256)) k (cst F k k % 256) 67 (by omega)
    rw [h2] at h3 ⊢
    rw [h1, h0] at h3
    have h4 : cst F k k * 256 ^ k = cst F k k / 256 * 256 ^ (k + 1) + cst F k k % 256 * 256 ^ k := by
      rw [Nat.pow_succ, Nat.mul_comm (256 ^ k) 256, ← Nat.mul_assoc, ← Nat.add_mul]
      congr 1; omega
    rw [h4] at h3
    generalize cst F k k / 256 * 256 ^ (k + 1) = x at *
    generalize cst F k k % 256 * 256 ^ k = y at *
    omega
/-- The whole product's bytes. -/
def prB (a b c : Nat → Nat) (i : Nat) : Nat := if i < 67 then cst (tbI a b c 32) 66 i else 0
theorem nB_congr {f g : Nat → Nat} : ∀ n, (∀ i, i < n → f i = g i) → nB f n = nB g n := by
  intro n
  induction n with
  | zero => intro _; rfl
  | succ n ih => intro h; show nB f n + f n * 256 ^ n = nB g n + g n * 256 ^ n; rw [ih fun i hi => h i (by omega), h n (by omega)]
theorem prB_val (a b c : Nat → Nat) : nB (prB a b c) 67 = nB a 32 * nB b 32 + nB c 32 := by
  rw [nB_congr (g := cst (tbI a b c 32) 66) 67 (fun i hi => by unfold prB; rw [if_pos hi]), cst_val _ 66 (Nat.le_refl _), tbI_val a b c 32 (Nat.le_refl _), Nat.add_comm]
theorem small_prod {A B C : Nat} (hA : A < 256 ^ 32) (hB : B < 256 ^ 32) (hC : C < 256 ^ 32) : C + A * B < 256 ^ 66 := by
  have h1 : A * B ≤ 256 ^ 32 * 256 ^ 32 := Nat.mul_le_mul (by omega) (by omega)
  have h2 : 256 ^ 32 + 256 ^ 32 * 256 ^ 32 ≤ 256 ^ 66 := by decide +kernel
  omega
theorem prB_lt {a b c : Nat → Nat} (ha : ∀ i, a i < 256) (hb : ∀ i, b i < 256) (hc : ∀ i, c i < 256) (i : Nat) : prB a b c i < 256 := by
  unfold prB
  split
  · rename_i h
    by_cases e : i = 66
    · subst e
      have h1 := cst_val (tbI a b c 32) 66 (Nat.le_refl _)
      rw [tbI_val a b c 32 (Nat.le_refl _)] at h1
      have h2 := small_prod (nB_lt ha 32) (nB_lt hb 32) (nB_lt hc 32)
      rw [← h1] at h2
      have h3 : nB (cst (tbI a b c 32) 66) 67 = nB (cst (tbI a b c 32) 66) 66 + cst (tbI a b c 32) 66 66 * 256 ^ 66 := rfl
      rw [h3] at h2
      rcases Nat.eq_zero_or_pos (cst (tbI a b c 32) 66 66) with h4 | h4
      · rw [h4]; omega
      · have h5 : 1 * 256 ^ 66 ≤ cst (tbI a b c 32) 66 66 * 256 ^ 66 := Nat.mul_le_mul_right _ h4
        omega
    · exact cst_lt _ _ _ (by omega)
  · omega
theorem ai_prB (a b c : Nat → Nat) : ai 67 (cst (tbI a b c 32) 66) = ai 67 (prB a b c) := ai_congr fun i hi => by unfold prB; rw [if_pos hi]
theorem bi_row {w : World} {q n : Nat} {t0 : TypeId} {g : Nat → Nat} (hg : ∀ i, g i < 256) (h : w.heap[q]? = some (.cells (ai n g) t0 (0, 0))) : Bi w (some ⟨q, 0, none⟩) n g :=
  ⟨hg, fun _ => ⟨q, 0, rfl, fun i hi => by
    rw [Nat.zero_add, cell_of_row _ _ _ _ _ _ h]; exact arr_get _ _ _ hi⟩⟩
section
variable {P : Program} {W : Wd} {ops : Array Oper} {s0 s1 : List SV} {z : List Blk} {y : List (Array Value)} {o : Oper}
/-- What stands for a block, moved; a place of a row of the call's own. -/
theorem k_mp {p d : Tmp} (b : Nat) (fm : Fm) (ho : o.op = .move (.tmp p) ∨ o.op = .assign (.tmp p)) (hd : o.dst = some d) (hw : wantF ops s1 o = true := by kernel_rfl) (hp : slot s1 p = .inr (b, fm) := by kernel_rfl) (hs : slot s1 d = .inr (b, fm) := by kernel_rfl) : Ok1 P W ops s0 s1 z y o ⟨none, none, none, false⟩ := by
  have hm : p ∈ tmpsOf o := mem_tmps (by rcases ho with ho | ho <;> (rw [ho]; simp [Op.operands]))
  refine Or.inl ⟨hw, ⟨?_, fun b h => by simp at h, fun b _ h => by simp at h, ?_⟩⟩
  · rintro b' (h | h | ⟨_, d', off', h1, h2⟩)
    · simp at h
    · simp at h
    · rw [hd] at h1; cases h1; rw [hs] at h2; cases h2; exact ⟨p, hm, _, hp⟩
  · intro β a w ha hb hr K Q hK
    have h3 : a.eval (.tmp p) = fv fm (β b) := by rw [ha p hm, hp]; rfl
    unfold Oper.wp
    rcases ho with ho | ho
    all_goals simp only [execOp, ho, h3, Sem.run_pure, Oper.upon_value]
    all_goals exact hK _ _ ⟨fun d' h => by rw [hd] at h; cases h; rw [hs]; rfl, Below.refl _ _⟩
theorem k_ib {t : TypeId} {p d : Nat} (b off' : Nat) (fm : Fm) {x : Operand} (u : Value) (hf : ∀ (w : World) (q : Nat), (Instr.indexAt t (fv fm q) u).run P w = .ok (.pointer (some ⟨q, off', none⟩)) w)
    (ho : o.op = .indexAddr t (.tmp p) x) (hd : o.dst = some d) (hw : wantF ops s1 o = true := by kernel_rfl) (hx : plainB s1 x = true := by kernel_rfl) (hu : evS s1 x = u := by kernel_rfl) (hp : slot s1 p = .inr (b, fm) := by kernel_rfl) (hs : slot s1 d = .inr (b, pt off') := by kernel_rfl) : Ok1 P W ops s0 s1 z y o ⟨none, none, none, false⟩ := by
  have hm : p ∈ tmpsOf o := mem_tmps (by rw [ho]; simp [Op.operands])
  refine Or.inl ⟨hw, ⟨?_, fun b h => by simp at h, fun b _ h => by simp at h, ?_⟩⟩
  · rintro b' (h | h | ⟨_, d', off', h1, h2⟩)
    · simp at h
    · simp at h
    · rw [hd] at h1; cases h1; rw [hs] at h2; cases h2; exact ⟨p, hm, _, hp⟩
  · intro β a w ha hb hr K Q hK
    have h3 : a.eval (.tmp p) = fv fm (β b) := by rw [ha p hm, hp]; rfl
    have h4 : a.eval x = u := by rw [← hu]; exact ev_plain ha (by rw [ho]; simp [Op.operands]) hx
    unfold Oper.wp
    simp only [execOp, ho, h3, h4, Sem.run_bind, hf w (β b), Result.andThen_ok, Sem.run_pure, Oper.upon_value]
    exact hK _ _ ⟨fun d' h => by rw [hd] at h; cases h; rw [hs]; rfl, Below.refl _ _⟩
end
theorem ix67 {i : Nat} (hi : i < 67) (w : World) (q : Nat) : (Instr.indexAt 86 (fv (sl 0 67 67) q) (.int .i64 ((i : Nat) : Int))).run Try.prog w = .ok (.pointer (some ⟨q, i, none⟩)) w := by
  simp [fv, Instr.indexAt, go_sem, hi]
theorem mk67 (w : World) : (Instr.makeSlice 86 (.int .i64 67) (.int .i64 67)).run Try.prog w = .ok (.slice (some ⟨w.heap.size, 0, none⟩) 67 67) (w.alloc (.cells (ai 67 fun _ => 0) 3)) := by
  rw [ai_zero]
  kernel_rfl
/-- One block more, behind a walk by hand. -/
def bup (β : Nat → Nat) (n q b : Nat) : Nat := bif Nat.beq b n then q else β b
theorem reg_gen {P : Program} {x : Code} {Q : Exit → Act → World → Prop} {a : Act} {w : World} (h : ∀ QQ : Exit → Act → World → Prop, Hid (∀ a w, Q .normal a w → QQ .normal a w) → x.wp P QQ a w) : x.wp P Q a w := h Q (hide1 fun _ _ h => h)
theorem go_grow {W : Wd} {s : List SV} {m : List Blk} {β : Nat → Nat} {a : Act} {w : World} {Q : Exit → Act → World → Prop} (h : St W s m β a w) (cc : Array Value) (t0 : TypeId) (s' : List SV) {a' : Act} {w' : World} (hw : w' = w.alloc (.cells cc t0)) (hk : ∀ β a w, St W s' (m ++ [(cc, t0)]) β a w → Q .normal a w)
    (ha : a' = { tmps := (s'.map (den (bup β m.length w.heap.size))).toArray, defers := [] } := by kernel_rfl) (hl : liveB s' (m.length + 1) = true := by kernel_rfl) : Q .normal a' w' := by
  subst hw
  have e0 : bup β m.length w.heap.size m.length = w.heap.size := by unfold bup; rw [Nat.beq_refl]; rfl
  have e1 : ∀ b, b < m.length → bup β m.length w.heap.size b = β b := by
    intro b hb
    unfold bup
    rw [show Nat.beq b m.length = false from by
      cases e : Nat.beq b m.length with
      | false => rfl
      | true => have := Nat.beq_eq.mp e; omega]
    rfl
  have hlt : ∀ b, b < m.length → β b < w.heap.size := by
    intro b hb
    obtain ⟨x, hx⟩ : ∃ x, m[b]? = some x := ⟨_, List.getElem?_eq_getElem hb⟩
    exact (Array.getElem?_eq_some_iff.1 (h.row b x hx)).1
  refine hk (bup β m.length w.heap.size) a' _ ⟨ha, h.bel.quiet ((Below.refl _ _).alloc (Nat.le_refl _) _), ?_, ?_, ?_, live_of (by rw [List.length_append]; exact hl)⟩
  · intro b c hc
    rcases Nat.lt_or_ge b m.length with hb | hb
    · rw [List.getElem?_append_left hb] at hc
      rw [e1 b hb, Below.heap_alloc _ _ _ (hlt b hb)]
      exact h.row b c hc
    · have hb' : b < (m ++ [(cc, t0)]).length := (List.getElem?_eq_some_iff.1 hc).1
      obtain rfl : b = m.length := by simp at hb'; omega
      rw [List.getElem?_append_right (Nat.le_refl _), Nat.sub_self] at hc
      cases hc
      rw [e0]
      exact row1_0 _ _
  · intro b hb
    rcases Nat.lt_or_ge b m.length with hb' | hb'
    · rw [e1 b hb']; exact h.old b hb'
    · obtain rfl : b = m.length := by simp at hb; omega
      rw [e0]
      intro hS
      have := W.lt _ hS
      have := h.bel.size
      omega
  · intro b c hb hc e
    rcases Nat.lt_or_ge b m.length with hb' | hb' <;> rcases Nat.lt_or_ge c m.length with hc' | hc'
    · rw [e1 b hb', e1 c hc'] at e; exact h.inj b c hb' hc' e
    · obtain rfl : c = m.length := by simp at hc; omega
      rw [e1 b hb', e0] at e
      have := hlt b hb'; omega
    · obtain rfl : b = m.length := by simp at hb; omega
      rw [e0, e1 c hc'] at e
      have := hlt c hc'; omega
    · simp at hb hc; omega
end Go.Proofs.Ytpogmflgmpifoaa

namespace Go.Proofs.Ytpogmflgmpifoaa
open Go.RowKit Go.Shelf
set_option maxRecDepth 100000 in
set_option maxHeartbeats 4000000 in
theorem curveResidues_t {aa : Option Addr} {len cap : Nat} (hl : 64 < len) (W0 : World) : Calls Try.prog 5 #[.slice aa len cap] W0 fun e w' => e = .returned (.bool true) ∧ Below W0.heap.size W0 w' := by
  refine s_in Try.func5 Try.ntmps5 rfl [.inl (.slice aa len cap)] ?_
  intro β a h
  refine sym_seq ?_
  refine St.r0 h [(2, .inl (.bool false))] [] ?_ ?_
  · exact oz (k_mv (.inr rfl) rfl) <|
    ok_nil
  clear h; intro β a w h
  refine sym_then ?_
  refine sym_seq ?_
  replace h := St.cs h (s' := [.inl (.slice aa len cap), uu, .inl (.bool false), uu, uu, uu, uu, uu, uu, uu, uu, uu, uu, uu, uu, uu, uu, uu, uu, uu, uu, uu, uu, uu, uu, uu, uu, uu, uu, uu, uu, uu, uu, uu, uu, uu, uu, uu, uu, uu, uu, uu, uu, uu]) (m' := []) (by kernel_rfl) (by kernel_rfl)
  obtain rfl : a = { tmps := #[.slice aa len cap, undef, .bool false, undef, undef, undef, undef, undef, undef, undef, undef, undef, undef, undef, undef, undef, undef, undef, undef, undef, undef, undef, undef, undef, undef, undef, undef, undef, undef, undef, undef, undef, undef, undef, undef, undef, undef, undef, undef, undef, undef, undef, undef, undef], defers := [] } := h.tm
  have hwb := h.bel.below
  clear h
  refine reg_gen fun QQ hQQ => ?_
  go_wp2_with fail
  refine (residue_L (by omega) _ (bs_five _)).mono ?_
  rintro e w1 ⟨rfl, hb1⟩
  have hbx := hwb.trans (((Below.refl w.heap.size w).alloc (Nat.le_refl _) _).trans (hb1.mono (by simp)) |>.mono hwb.size)
  have hr1 := row1_0 w1 (.cells (ck fun _ => 0) 23)
  go_wp2_with (refine wpList_store_row rfl 23 (.tmp 3) (.tmp 9) rfl w1.heap.size (ck (kq (nB (kl0 [5]) 1 % oL))) (ck fun _ => 0) 23 rfl rfl (by rw [ck_size]; kernel_rfl) hr1 (by rw [ck_size, ck_size]) (ck_one _) rfl ?_)
  refine hQQ.out _ _ ?_
  clear hQQ QQ
  refine go_st1 (ck (kq (nB (kl0 [5]) 1 % oL))) 23 w1.heap.size [.inl (.slice aa len cap), uu, .inl (.bool false), .inr (0, pt 0), .inl (.bool true), uu, .inl (.tuple #[.agg (ck (kq (nB (kl0 [5]) 1 % oL))), .bool true]), .inl (.slice (some ⟨w.heap.size, 0, none⟩) 1 1), .inl (.tuple #[.agg (ck (kq (nB (kl0 [5]) 1 % oL))), .bool true]), .inl (.agg (ck (kq (nB (kl0 [5]) 1 % oL)))), .inl (.bool true), uu, uu, uu, uu, uu, uu, uu, uu, uu, uu, uu, uu, uu, uu, uu, uu, uu, uu, uu, uu, uu, uu, uu, uu, uu, uu, uu, uu, uu, uu, uu, uu, uu] (below_setRow (hbx.alloc hbx.size _) hbx.size _) hbx.size (setRow_heap _ _ _ _ _ _ hr1) ?_
  clear hr1 hbx hb1 hwb; intro β a w h; replace h := h.o0
  refine sym_then ?_
  refine sym_seq ?_
  refine sym_seq ?_
  refine St.r0 h [(11, .inl (.bool true)), (12, .inl (.bool false)), (13, .inl (.bool false)), (14, .inl (.agg (ck (kq (nB (kl0 [5]) 1 % oL))))), (15, .inl (.agg (ck (kl0 [5])))), (16, .inl (.bool false)), (17, .inl (.bool false))] [nn, nn, nn, eR 0] ?_ ?_
  · exact oc (k_mv (.inl rfl) rfl) <|
    oc (k_nt true rfl rfl) <|
    oc (k_mv (.inl rfl) rfl) <|
    oc (k_ld 0 0 (.agg (ck (kq (nB (kl0 [5]) 1 % oL)))) (c := ck (kq (nB (kl0 [5]) 1 % oL))) (ldK (b := (kq (nB (kl0 [5]) 1 % oL))) 23) rfl rfl) <|
    oz (k_bu #[(0, .int .u8 ((5 : Nat) : Int))] (.agg (ck (kl0 [5]))) (fun w => by kernel_rfl) rfl rfl) <|
    oz (k_bi (.agg (ck (kq (nB (kl0 [5]) 1 % oL)))) (.agg (ck (kl0 [5]))) (.bool false) (neK_0 (F := (kq (nB (kl0 [5]) 1 % oL))) (G := (kl0 [5])) (by decide +kernel)) rfl rfl) <|
    oz (k_pf rfl rfl) <|
    ok_nil
  clear h; intro β a w h
  refine sym_then ?_
  refine s_cf h ?_
  refine wp_skip ?_
  refine sym_then ?_
  refine sym_seq ?_
  refine St.rg h [(19, .inl (.slice aa len cap)), (20, .inl (.tuple #[.agg (ck (fun _ => 0)), .bool false])), (18, .inl (.tuple #[.agg (ck (fun _ => 0)), .bool false])), (21, .inl (.agg (ck (fun _ => 0)))), (22, .inl (.bool false)), (5, .inr (1, pt 0)), (4, .inl (.bool false))] [(ck (fun _ => 0), 23)] [(1, ck (fun _ => 0))] [nn, nn, nn, nn, nn, eN 1, eS 1] ?_ ?_
  · exact oc (k_mv (.inl rfl) rfl) <|
    oc (k_ca 21 #[.slice aa len cap] (.tuple #[.agg (ck (fun _ => 0)), .bool false]) (fun w => residue_t hl w) rfl rfl) <|
    oc (k_mv (.inl rfl) rfl) <|
    oc (k_ex (.tuple #[.agg (ck (fun _ => 0)), .bool false]) (.agg (ck (fun _ => 0))) rfl rfl) <|
    oc (k_ex (.tuple #[.agg (ck (fun _ => 0)), .bool false]) (.bool false) rfl rfl) <|
    oc (k_al 1 alK rfl rfl) <|
    oc (k_st 1 0 (.agg (ck (fun _ => 0))) (c := ck (fun _ => 0)) (n := ck (fun _ => 0)) (stK (F := (fun _ => 0)) (c := ck (fun _ => 0)) 23 (ck_size _)) rfl rfl) <|
    oz (k_mv (.inr rfl) rfl) <|
    ok_nil
  clear h; intro β a w h
  refine sym_then ?_
  refine sym_seq ?_
  refine sym_seq ?_
  refine St.r0 h [(23, .inl (.slice aa len cap)), (24, .inl (.int .i64 ((len : Nat) : Int))), (25, .inl (.bool true))] [] ?_ ?_
  · exact oz (k_mv (.inl rfl) rfl) <|
    oz (k_ln len cap rfl rfl (fun w => len_run _ w) (ad := aa)) <|
    oz (k_bi (.int .i64 ((len : Nat) : Int)) (.int .i64 ((64 : Nat) : Int)) (.bool true) (gt_i (m := ((len : Nat) : Int)) (n := ((64 : Nat) : Int)) (decide_eq_true (by omega))) rfl rfl) <|
    ok_nil
  clear h; intro β a w h
  refine sym_then ?_
  refine s_ct h ?_
  refine sym_seq ?_
  refine St.r0 h [(26, .inl (.bool false)), (27, .inl (.bool true)), (28, .inl (.bool true)), (29, .inl (.agg (ck (fun _ => 0)))), (30, .inl (.agg (ck (fun _ => 0)))), (31, .inl (.bool true)), (32, .inl (.bool true)), (2, .inl (.bool true))] [nn, nn, nn, eR 1] ?_ ?_
  · exact oc (k_mv (.inl rfl) rfl) <|
    oc (k_nt false rfl rfl) <|
    oc (k_mv (.inl rfl) rfl) <|
    oc (k_ld 1 0 (.agg (ck (fun _ => 0))) (c := ck (fun _ => 0)) (ldK (b := (fun _ => 0)) 23) rfl rfl) <|
    oz (k_bu #[] (.agg (ck (fun _ => 0))) bdK0 rfl rfl) <|
    oz (k_bi (.agg (ck (fun _ => 0))) (.agg (ck (fun _ => 0))) (.bool true) (eqK_t (F := (fun _ => 0)) (G := (fun _ => 0)) (fun _ _ => rfl)) rfl rfl) <|
    oz (k_pt rfl rfl) <|
    oz (k_mv (.inr rfl) rfl) <|
    ok_nil
  clear h; intro β a w h
  refine sym_then ?_
  refine wp_ret ?_
  refine then_ret ?_
  exact s_rt h Try.results5 (fun hb => ⟨rfl, hb⟩)
set_option maxRecDepth 100000 in
set_option maxHeartbeats 4000000 in
theorem curveResidues_f {aa : Option Addr} {len cap : Nat} {f : Nat → Nat} (hl : len ≤ 64) (W0 : World) (hb : Bs W0 aa len f) : Calls Try.prog 5 #[.slice aa len cap] W0 fun e w' => e = .returned (.bool true) ∧ Below W0.heap.size W0 w' := by
  refine s_in Try.func5 Try.ntmps5 rfl [.inl (.slice aa len cap)] ?_
  intro β a h
  refine sym_seq ?_
  refine St.r0 h [(2, .inl (.bool false))] [] ?_ ?_
  · exact oz (k_mv (.inr rfl) rfl) <|
    ok_nil
  clear h; intro β a w h
  refine sym_then ?_
  refine sym_seq ?_
  replace h := St.cs h (s' := [.inl (.slice aa len cap), uu, .inl (.bool false), uu, uu, uu, uu, uu, uu, uu, uu, uu, uu, uu, uu, uu, uu, uu, uu, uu, uu, uu, uu, uu, uu, uu, uu, uu, uu, uu, uu, uu, uu, uu, uu, uu, uu, uu, uu, uu, uu, uu, uu, uu]) (m' := []) (by kernel_rfl) (by kernel_rfl)
  obtain rfl : a = { tmps := #[.slice aa len cap, undef, .bool false, undef, undef, undef, undef, undef, undef, undef, undef, undef, undef, undef, undef, undef, undef, undef, undef, undef, undef, undef, undef, undef, undef, undef, undef, undef, undef, undef, undef, undef, undef, undef, undef, undef, undef, undef, undef, undef, undef, undef, undef, undef], defers := [] } := h.tm
  have hwb := h.bel.below
  clear h
  refine reg_gen fun QQ hQQ => ?_
  go_wp2_with fail
  refine (residue_L (by omega) _ (bs_five _)).mono ?_
  rintro e w1 ⟨rfl, hb1⟩
  have hbx := hwb.trans (((Below.refl w.heap.size w).alloc (Nat.le_refl _) _).trans (hb1.mono (by simp)) |>.mono hwb.size)
  have hr1 := row1_0 w1 (.cells (ck fun _ => 0) 23)
  go_wp2_with (refine wpList_store_row rfl 23 (.tmp 3) (.tmp 9) rfl w1.heap.size (ck (kq (nB (kl0 [5]) 1 % oL))) (ck fun _ => 0) 23 rfl rfl (by rw [ck_size]; kernel_rfl) hr1 (by rw [ck_size, ck_size]) (ck_one _) rfl ?_)
  refine hQQ.out _ _ ?_
  clear hQQ QQ
  refine go_st1 (ck (kq (nB (kl0 [5]) 1 % oL))) 23 w1.heap.size [.inl (.slice aa len cap), uu, .inl (.bool false), .inr (0, pt 0), .inl (.bool true), uu, .inl (.tuple #[.agg (ck (kq (nB (kl0 [5]) 1 % oL))), .bool true]), .inl (.slice (some ⟨w.heap.size, 0, none⟩) 1 1), .inl (.tuple #[.agg (ck (kq (nB (kl0 [5]) 1 % oL))), .bool true]), .inl (.agg (ck (kq (nB (kl0 [5]) 1 % oL)))), .inl (.bool true), uu, uu, uu, uu, uu, uu, uu, uu, uu, uu, uu, uu, uu, uu, uu, uu, uu, uu, uu, uu, uu, uu, uu, uu, uu, uu, uu, uu, uu, uu, uu, uu, uu] (below_setRow (hbx.alloc hbx.size _) hbx.size _) hbx.size (setRow_heap _ _ _ _ _ _ hr1) ?_
  clear hr1 hbx hb1 hwb; intro β a w h; replace h := h.o0
  refine sym_then ?_
  refine sym_seq ?_
  refine sym_seq ?_
  refine St.r0 h [(11, .inl (.bool true)), (12, .inl (.bool false)), (13, .inl (.bool false)), (14, .inl (.agg (ck (kq (nB (kl0 [5]) 1 % oL))))), (15, .inl (.agg (ck (kl0 [5])))), (16, .inl (.bool false)), (17, .inl (.bool false))] [nn, nn, nn, eR 0] ?_ ?_
  · exact oc (k_mv (.inl rfl) rfl) <|
    oc (k_nt true rfl rfl) <|
    oc (k_mv (.inl rfl) rfl) <|
    oc (k_ld 0 0 (.agg (ck (kq (nB (kl0 [5]) 1 % oL)))) (c := ck (kq (nB (kl0 [5]) 1 % oL))) (ldK (b := (kq (nB (kl0 [5]) 1 % oL))) 23) rfl rfl) <|
    oz (k_bu #[(0, .int .u8 ((5 : Nat) : Int))] (.agg (ck (kl0 [5]))) (fun w => by kernel_rfl) rfl rfl) <|
    oz (k_bi (.agg (ck (kq (nB (kl0 [5]) 1 % oL)))) (.agg (ck (kl0 [5]))) (.bool false) (neK_0 (F := (kq (nB (kl0 [5]) 1 % oL))) (G := (kl0 [5])) (by decide +kernel)) rfl rfl) <|
    oz (k_pf rfl rfl) <|
    ok_nil
  clear h; intro β a w h
  refine sym_then ?_
  refine s_cf h ?_
  refine wp_skip ?_
  refine sym_then ?_
  refine sym_seq ?_
  refine St.rg h [(19, .inl (.slice aa len cap)), (20, .inl (.tuple #[.agg (ck (kq (nB f len % oL))), .bool true])), (18, .inl (.tuple #[.agg (ck (kq (nB f len % oL))), .bool true])), (21, .inl (.agg (ck (kq (nB f len % oL))))), (22, .inl (.bool true)), (5, .inr (1, pt 0))] [(ck (fun _ => 0), 23)] [(1, ck (kq (nB f len % oL)))] [nn, nn, nn, nn, nn, eN 1, eS 1] ?_ ?_
  · exact oc (k_mv (.inl rfl) rfl) <|
    oc (k_cw 21 #[.slice aa len cap] (.tuple #[.agg (ck (kq (nB f len % oL))), .bool true]) (fun w hw => residue_L hl w (hb.later hw.below)) rfl rfl) <|
    oc (k_mv (.inl rfl) rfl) <|
    oc (k_ex (.tuple #[.agg (ck (kq (nB f len % oL))), .bool true]) (.agg (ck (kq (nB f len % oL)))) rfl rfl) <|
    oc (k_ex (.tuple #[.agg (ck (kq (nB f len % oL))), .bool true]) (.bool true) rfl rfl) <|
    oc (k_al 1 alK rfl rfl) <|
    oc (k_st 1 0 (.agg (ck (kq (nB f len % oL)))) (c := ck (fun _ => 0)) (n := ck (kq (nB f len % oL))) (stK (F := (kq (nB f len % oL))) (c := ck (fun _ => 0)) 23 (ck_size _)) rfl rfl) <|
    oz (k_mv (.inr rfl) rfl) <|
    ok_nil
  clear h; intro β a w h
  refine sym_then ?_
  refine sym_seq ?_
  refine sym_seq ?_
  refine St.r0 h [(23, .inl (.slice aa len cap)), (24, .inl (.int .i64 ((len : Nat) : Int))), (25, .inl (.bool false))] [] ?_ ?_
  · exact oz (k_mv (.inl rfl) rfl) <|
    oz (k_ln len cap rfl rfl (fun w => len_run _ w) (ad := aa)) <|
    oz (k_bi (.int .i64 ((len : Nat) : Int)) (.int .i64 ((64 : Nat) : Int)) (.bool false) (gt_i (m := ((len : Nat) : Int)) (n := ((64 : Nat) : Int)) (decide_eq_false (by omega))) rfl rfl) <|
    ok_nil
  clear h; intro β a w h
  refine sym_then ?_
  refine s_cf h ?_
  refine wp_skip ?_
  refine sym_then ?_
  refine sym_seq ?_
  refine St.r0 h [(33, .inl (.bool true)), (34, .inl (.bool true)), (35, .inl (.agg (ck (kq (nB f len % oL))))), (36, .inl (.slice aa len cap)), (37, .inl (.agg (ck (kq (nB f len % oL))))), (38, .inl (.bool true)), (39, .inl (.bool true)), (40, .inl (.bool true)), (41, .inl (.agg (ck (kq (nB f len % oL))))), (42, .inl (.bool true)), (43, .inl (.bool true)), (2, .inl (.bool true))] [nn, nn, eR 1, nn, nn, nn, nn, nn, eR 1] ?_ ?_
  · exact oc (k_mv (.inl rfl) rfl) <|
    oc (k_mv (.inl rfl) rfl) <|
    oc (k_ld 1 0 (.agg (ck (kq (nB f len % oL)))) (c := ck (kq (nB f len % oL))) (ldK (b := (kq (nB f len % oL))) 23) rfl rfl) <|
    oc (k_mv (.inl rfl) rfl) <|
    oc (k_cw 22 #[.slice aa len cap] (.agg (ck (kq (nB f len % oL)))) (fun w hw => residue_R (by omega) w (hb.later hw.below)) rfl rfl) <|
    oc (k_bi (.agg (ck (kq (nB f len % oL)))) (.agg (ck (kq (nB f len % oL)))) (.bool true) (eqK_t (F := (kq (nB f len % oL))) (G := (kq (nB f len % oL))) (fun _ _ => rfl)) rfl rfl) <|
    oc (k_pt rfl rfl) <|
    oc (k_mv (.inl rfl) rfl) <|
    oc (k_ld 1 0 (.agg (ck (kq (nB f len % oL)))) (c := ck (kq (nB f len % oL))) (ldK (b := (kq (nB f len % oL))) 23) rfl rfl) <|
    oz (k_ca 23 #[.agg (ck (kq (nB f len % oL)))] (.bool true) (fun w => least_t (kq_lt _) (least_own (Nat.mod_lt _ oL_pos)) w) rfl rfl) <|
    oz (k_pt rfl rfl) <|
    oz (k_mv (.inr rfl) rfl) <|
    ok_nil
  clear h; intro β a w h
  refine sym_then ?_
  refine wp_ret ?_
  exact s_rt h Try.results5 (fun hb => ⟨rfl, hb⟩)
theorem curveResidues_walk {aa : Option Addr} {len cap : Nat} {f : Nat → Nat} (W0 : World) (hb : Bs W0 aa len f) : Calls Try.prog 5 #[.slice aa len cap] W0 fun e w' => e = .returned (.bool true) ∧ Below W0.heap.size W0 w' := by
  rcases Nat.lt_or_ge 64 len with h | h
  · exact curveResidues_t h W0
  · exact curveResidues_f h W0 hb
end Go.Proofs.Ytpogmflgmpifoaa

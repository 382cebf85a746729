/- CurveSums: the points of any texts. -/
import Derived.Test.YtgiemldmphbolaaCurveSumsWalk
namespace Go.Proofs.Ytgiemldmphbolaa
open Go.RowKit
theorem mu_zero (n : Nat) : mu 0 n = 0 := by unfold mu; rw [Nat.zero_mul, Nat.zero_mod]
theorem sb_11 : sb 1 1 = 0 := by decide +kernel
theorem uY_1 : uY 1 = 0 := by decide +kernel
theorem neg_sq {r : Nat} (hr : r < pp) (h0 : r ≠ 0) : mu (sb 0 r) (sb 0 r) = mu r r := by
  have e : sb 0 r = pp - r := by
    unfold sb
    rw [Nat.zero_add]; exact Nat.mod_eq_of_lt (by omega)
  rw [e]; unfold mu
  exact sq_neg (Nat.le_of_lt hr)
theorem both_of (b : Nat → Nat) (hb : ∀ i, b i < 256) : ∃ (x y : Nat) (k : Bool), x < pp ∧ y < pp ∧ mu x x = uY y ∧ (∀ w, Calls Try.prog 10 #[.agg (ck b)] w fun e w' => e = .returned (.tuple #[.agg (ces [x, sb y 1]), .bool k]) ∧ Below w.heap.size w w') ∧ (∀ w, Calls Try.prog 11 #[.agg (ck b)] w fun e w' => e = .returned (.tuple #[.agg (cis [x, y, 1, mu x y]), .bool k]) ∧ Below w.heap.size w w') := by
  have hc : ∀ i, (updN b 31 (b 31 % 128)) i < 256 := by
    intro i
    unfold updN
    split
    · exact Nat.lt_trans (Nat.mod_lt _ (by omega)) (by omega)
    · exact hb i
  have cO := fun w => of_k hc w
  have cO' := fun w => of_r hc w
  have hy := ofb_lt (updN b 31 (b 31 % 128))
  generalize ofb (updN b 31 (b 31 % 128)) = y at *
  obtain ⟨r, k, hr, hs, cU, cV⟩ := root_b2 (mu_lt (sb (mu y y) 1) (inv (ad (mu dN (mu y y)) 1)))
  have cE := fun w => evenX_r hy cU w
  have orig : (∀ w, Calls Try.prog 10 #[.agg (ck b)] w fun e w' => e = .returned (.tuple #[.agg (ces [0, 0]), .bool false]) ∧ Below w.heap.size w w') → (∀ w, Calls Try.prog 11 #[.agg (ck b)] w fun e w' => e = .returned (.tuple #[.agg (cis [0, 1, 1, 0]), .bool false]) ∧ Below w.heap.size w w') → ∃ (x y : Nat) (k : Bool), x < pp ∧ y < pp ∧ mu x x = uY y ∧ (∀ w, Calls Try.prog 10 #[.agg (ck b)] w fun e w' => e = .returned (.tuple #[.agg (ces [x, sb y 1]), .bool k]) ∧ Below w.heap.size w w') ∧ (∀ w, Calls Try.prog 11 #[.agg (ck b)] w fun e w' => e = .returned (.tuple #[.agg (cis [x, y, 1, mu x y]), .bool k]) ∧ Below w.heap.size w w') := by
    intro h1 h2
    refine ⟨0, 1, false, zero_ltp, one_ltp, by rw [uY_1, mu_zero], ?_, ?_⟩
    · rw [sb_11]; exact h1
    · rw [mu_zero]; exact h2
  by_cases hkey : ∀ i, i < 32 → byt (dig y) i = (updN b 31 (b 31 % 128)) i
  · have hkey' : ∀ i, i < 32 → kb y i = (updN b 31 (b 31 % 128)) i := fun i hi => by rw [← byt_kb y i hi]; exact hkey i hi
    cases k with
    | false =>
      refine orig (fun w => ?_) (fun w => rof_x hb hy cO' hkey' cV w)
      rcases Nat.lt_or_ge (b 31) 128 with hod | hod
      · exact of_xe hb hy cO hkey cE hod w
      · exact of_xo hb hy cO hkey cE hod w
    | true =>
      obtain ⟨-, hsq⟩ := hs rfl
      rcases Nat.lt_or_ge (b 31) 128 with hod | hod
      · exact ⟨r, y, true, hr, hy, hsq, fun w => of_e hb hy cO hkey cE hod w, fun w => rof_e hb hy cO' hkey' cV hr hod w⟩
      · by_cases hz : r = 0
        · exact orig (fun w => of_z hb hy cO hkey cE hr hz hod w) (fun w => rof_z hb hy cO' hkey' cV hz hod w)
        · exact ⟨sb 0 r, y, true, sb_lt _ _, hy, (neg_sq hr hz).trans hsq, fun w => of_o hb hy cO hkey cE hr hz hod w, fun w => rof_o hb hy cO' hkey' cV hr hz hod w⟩
  · have hkey' : ¬ ∀ i, i < 32 → kb y i = (updN b 31 (b 31 % 128)) i := fun h => hkey fun i hi => by rw [byt_kb y i hi]; exact h i hi
    refine orig (fun w => ?_) (fun w => rof_n hb hy cO' hkey' w)
    rcases Nat.lt_or_ge (b 31) 128 with hod | hod
    · exact of_ne hb hy cO hkey hod w
    · exact of_no hb hy cO hkey hod w
theorem curveSums_walk (a : Nat → Nat) (ha : ∀ i, a i < 256) (b : Nat → Nat) (hb : ∀ i, b i < 256) (W0 : World) : Calls Try.prog 4 #[.agg (ck a), .agg (ck b)] W0 fun e w' => e = .returned (.bool true) ∧ Below W0.heap.size W0 w' := by
  obtain ⟨x1, y1, k, hx1, hy1, s1, cP, cX⟩ := both_of a ha
  obtain ⟨x2, y2, l, hx2, hy2, s2, cQ, cY⟩ := both_of b hb
  have cS := fun w => plus_p hx1 (sb_lt y1 1) hx2 (sb_lt y2 1) w
  have cSk := fun w => pk (mu_lt (pX x1 (sb y1 1) x2 (sb y2 1)) (mu 1 (inv (pZ x1 (sb y1 1) x2 (sb y2 1))))) (sb_lt (sy x1 (sb y1 1) x2 (sb y2 1)) 1) w
  have cR := fun w => plus_rp hx1 hy1 one_ltp (mu_lt x1 y1) hx2 hy2 one_ltp (mu_lt x2 y2) w
  have cRk := fun w => rk (t1 := mu (ad (mu x1 y2) (mu y1 x2)) (ad (mu y1 y2) (mu x1 x2))) (mu_lt (ad (mu x1 y2) (mu y1 x2)) (sb (mu 1 1) (mu dN (mu (mu x1 y1) (mu x2 y2))))) (mu_lt (ad (mu 1 1) (mu dN (mu (mu x1 y1) (mu x2 y2)))) (ad (mu y1 y2) (mu x1 x2))) (mu_lt (sb (mu 1 1) (mu dN (mu (mu x1 y1) (mu x2 y2)))) (ad (mu 1 1) (mu dN (mu (mu x1 y1) (mu x2 y2))))) w
  have cM := fun w => minus_p hx1 (sb_lt y1 1) hx2 (sb_lt y2 1) w
  have cMk := fun w => pk (mu_lt (pX x1 (sb y1 1) (sb 0 x2) (sb y2 1)) (mu 1 (inv (pZ x1 (sb y1 1) (sb 0 x2) (sb y2 1))))) (sb_lt (sy x1 (sb y1 1) (sb 0 x2) (sb y2 1)) 1) w
  have cT := fun w => turned_r (y1 := y2) (z1 := 1) hx2 (mu_lt x2 y2) w
  rw [neg_mu hx2] at cT
  have hn := sb_lt 0 x2
  have cU := fun w => plus_rp hx1 hy1 one_ltp (mu_lt x1 y1) hn hy2 one_ltp (mu_lt (sb 0 x2) y2) w
  have cUk := fun w => rk (t1 := mu (ad (mu x1 y2) (mu y1 (sb 0 x2))) (ad (mu y1 y2) (mu x1 (sb 0 x2)))) (mu_lt (ad (mu x1 y2) (mu y1 (sb 0 x2))) (sb (mu 1 1) (mu dN (mu (mu x1 y1) (mu (sb 0 x2) y2))))) (mu_lt (ad (mu 1 1) (mu dN (mu (mu x1 y1) (mu (sb 0 x2) y2)))) (ad (mu y1 y2) (mu x1 (sb 0 x2)))) (mu_lt (sb (mu 1 1) (mu dN (mu (mu x1 y1) (mu (sb 0 x2) y2)))) (ad (mu 1 1) (mu dN (mu (mu x1 y1) (mu (sb 0 x2) y2))))) w
  have cK1 := fun w => rk (t1 := mu x1 y1) hx1 hy1 one_ltp w
  have cK2 := fun w => rk (t1 := mu x2 y2) hx2 hy2 one_ltp w
  rw [mu_1 hx1, mu_1 hy1] at cK1
  rw [mu_1 hx2, mu_1 hy2] at cK2
  have eF : tk (sx x1 (sb y1 1) x2 (sb y2 1)) (ad (sb (sy x1 (sb y1 1) x2 (sb y2 1)) 1) 1) = tk (mu (rX x1 y1 x2 y2 (mu (mu x1 y1) (mu x2 y2))) (inv (rZ (mu (mu x1 y1) (mu x2 y2))))) (mu (rY x1 y1 x2 y2 (mu (mu x1 y1) (mu x2 y2))) (inv (rZ (mu (mu x1 y1) (mu x2 y2))))) := by
    rw [sx_eq hx1 hy1 hx2 hy2, sy_eq hx1 hy1 hx2 hy2, ad_sb (mu_lt _ _)]
  have eG : tk (sx x1 (sb y1 1) (sb 0 x2) (sb y2 1)) (ad (sb (sy x1 (sb y1 1) (sb 0 x2) (sb y2 1)) 1) 1) = tk (mu (rX x1 y1 (sb 0 x2) y2 (mu (mu x1 y1) (mu (sb 0 x2) y2))) (inv (rZ (mu (mu x1 y1) (mu (sb 0 x2) y2))))) (mu (rY x1 y1 (sb 0 x2) y2 (mu (mu x1 y1) (mu (sb 0 x2) y2))) (inv (rZ (mu (mu x1 y1) (mu (sb 0 x2) y2))))) := by
    rw [sx_eq hx1 hy1 hn hy2, sy_eq hx1 hy1 hn hy2, ad_sb (mu_lt _ _)]
  change (∀ w, Calls Try.prog 12 #[.agg (ces [sx x1 (sb y1 1) x2 (sb y2 1), sb (sy x1 (sb y1 1) x2 (sb y2 1)) 1])] w fun e w' => e = .returned (.agg (ck (tk (sx x1 (sb y1 1) x2 (sb y2 1)) (ad (sb (sy x1 (sb y1 1) x2 (sb y2 1)) 1) 1)))) ∧ Below w.heap.size w w') at cSk
  change (∀ w, Calls Try.prog 12 #[.agg (ces [sx x1 (sb y1 1) (sb 0 x2) (sb y2 1), sb (sy x1 (sb y1 1) (sb 0 x2) (sb y2 1)) 1])] w fun e w' => e = .returned (.agg (ck (tk (sx x1 (sb y1 1) (sb 0 x2) (sb y2 1)) (ad (sb (sy x1 (sb y1 1) (sb 0 x2) (sb y2 1)) 1) 1)))) ∧ Below w.heap.size w w') at cMk
  rw [eF] at cSk
  rw [eG] at cMk
  by_cases e : x1 = x2 ∧ y1 = y2
  · obtain ⟨e1, e2⟩ := e
    have cI := fun w => is_ptt hx1 hx2 e1 (sb_lt y1 1) (sb_lt y2 1) (by rw [e2]) w
    exact curveSums_t cP cQ cX cY cS cSk cR cRk cM cMk cT cU cUk cI cK1 cK2 (fun i _ => by rw [e1, e2]) W0
  · have hH : ¬ ∀ i, i < 32 → tk x1 y1 i = tk x2 y2 i := by
      intro h
      obtain ⟨h1, h2⟩ := tk_inj hy1 hy2 h
      rw [← h1] at s2
      exact e ⟨same_x hx1 hx2 s1 s2 h2, h1⟩
    have cI : (∀ w, Calls Try.prog 18 #[.agg (ces [x1, sb y1 1]), .agg (ces [x2, sb y2 1])] w fun e w' => e = .returned (.bool false) ∧ Below w.heap.size w w') := by
      intro w
      by_cases e1 : x1 = x2
      · exact is_ptf hx1 hx2 e1 (sb_lt y1 1) (sb_lt y2 1) (fun h => e ⟨e1, by rw [← ad_sb hy1, h, ad_sb hy2]⟩) w
      · exact is_pf hx1 hx2 e1 w
    exact curveSums_f cP cQ cX cY cS cSk cR cRk cM cMk cT cU cUk cI cK1 cK2 hH W0
end Go.Proofs.Ytgiemldmphbolaa

/- RefMany, SgC, Sg6, Sg7, SG10, N21, N22, SG11, V5, Sg9, SgP, SGL: laid together. -/
import Derived.WalkKit
import Derived.ProofKit
import Derived.OpenShut
import Derived.ShutString
import Derived.ChangeOld
import Derived.Below
import Derived.Deep.Slices
import Derived.LaidMore
import Derived.Stop.Joined
import Derived.Test.YtacokkedomjgpaaGreatDoorG7
import Derived.Test.YtacokkedomjgpaaGreatDoorG4
import Derived.Test.YtacokkedomjgpaaGreatDoorG8
import Derived.Test.YtacokkedomjgpaaGreatDoorCards
import Derived.Test.YtacokkedomjgpaaGreatDoorTie
namespace Go.Proofs.YtacokkedomjgpaaGreatDoor
open Go.RowKit
def vR (v : Nat × Nat × Nat × Nat) : Array Value := cis [v.1, v.2.1, v.2.2.1, v.2.2.2]
def oR : Nat × Nat × Nat × Nat := (0, 1, 1, 0)
theorem vR_size (v : Nat × Nat × Nat × Nat) : (vR v).size = 88 := by unfold vR; rw [cis_size]; rfl
theorem ldV {v : Nat × Nat × Nat × Nat} (t0 : TypeId) (w : World) (q : Nat) (h : w.heap[q]? = some (.cells (vR v) t0 (0, 0))) : (Instr.loadAt 38 (.pointer (some ⟨q, 0, none⟩))).run Tryz.prog w = .ok (.agg (vR v)) w := ldR t0 w q h
theorem stV {v : Nat × Nat × Nat × Nat} {c : Array Value} (t0 : TypeId) (hc : c.size = 88) (w : World) (q : Nat) (h : w.heap[q]? = some (.cells c t0 (0, 0))) : (Instr.storeAt 38 (.pointer (some ⟨q, 0, none⟩)) (.agg (vR v))).run Tryz.prog w = .ok () (w.setRow q (vR v)) := stR t0 hc w q h
theorem bxV {v : Nat × Nat × Nat × Nat} (w : World) : (Instr.box 38 (.agg (vR v))).run Tryz.prog w = .ok (.pointer (some ⟨w.heap.size, 0, none⟩)) (w.alloc (.cells (vR v) 38)) := bxR w
theorem alV (w : World) : (Instr.alloc 38 true (.tuple #[])).run Tryz.prog w = .ok (.pointer (some ⟨w.heap.size, 0, none⟩)) (w.alloc (.cells (vR (0, 0, 0, 0)) 38)) := alR w
theorem origin_v (w : World) : Calls Tryz.prog 30 #[] w fun e w' => e = .returned (.agg (vR oR)) ∧ Below w.heap.size w w' := origin_r w
theorem plus_v2 {u v : Nat × Nat × Nat × Nat} (hu : Gd u) (hv : Gd v) (w : World) : Calls Tryz.prog 31 #[.agg (vR u), .agg (vR v)] w fun e w' => e = .returned (.agg (vR (sumR u v))) ∧ Below w.heap.size w w' :=
  plus_rp hu.1 hu.2.1 hu.2.2.1 hu.2.2.2 hv.1 hv.2.1 hv.2.2.1 hv.2.2.2 w
def dm (k : Nat) : Int := 255 - (k : Int)
theorem dm_v {k : Nat} (h : k < 256) : Value.int .i64 (dm k) = Value.int .i64 (((255 - k : Nat)) : Int) := by unfold dm; congr 1; omega
theorem sb_dm {x u : Operand} {k : Nat} (h : k < 256) (w : World) : (do eqGuard .sub 3 x u (.int .i64 (((255 - k : Nat)) : Int)) (.int .i64 (1 : Nat)); binOp .sub 3 (.int .i64 (((255 - k : Nat)) : Int)) (.int .i64 (1 : Nat))).run Tryz.prog w = .ok (.int .i64 (dm (k + 1))) w := by
  have := sb_z (x := x) (u := u) (m := (((255 - k : Nat)) : Int)) (n := ((1 : Nat) : Int)) (by omega) (by omega) w
  rwa [show (((255 - k : Nat)) : Int) - ((1 : Nat) : Int) = dm (k + 1) by unfold dm; omega] at this
theorem re_b2 {x u : Operand} {m : Nat} (w : World) : (do eqGuard .rem 5 x u (.int .u8 (m : Nat)) (.int .u8 (2 : Nat)); binOp .rem 5 (.int .u8 (m : Nat)) (.int .u8 (2 : Nat))).run Tryz.prog w = .ok (.int .u8 (m % 2 : Nat)) w := by
  have h1 : (m : Int).tmod 2 = (m : Int) % 2 := Int.tmod_eq_emod_of_nonneg (by omega)
  simp [eqGuard, binOp, go_sem, h1]
theorem oR_gd : Gd oR := ⟨zero_ltp, one_ltp, one_ltp, zero_ltp⟩
theorem vR_1 {f : Nat → Nat} {P : Nat × Nat × Nat × Nat} {k : Nat} (cd : f ((255 - k) / 8) / 2 ^ ((255 - k) % 8) % 2 = 1) (hk : k < 256) : vR (sumR (sumR (fldM sumR oR P (tops f (8 * 32) k)) (fldM sumR oR P (tops f (8 * 32) k))) P) = vR (fldM sumR oR P (tops f (8 * 32) (k + 1))) := by
  rw [tops_succ, show 8 * 32 - 1 - k = 255 - k by omega, show fg f (255 - k) = 1 from cd, fldM_1]
theorem vR_0 {f : Nat → Nat} {P : Nat × Nat × Nat × Nat} {k : Nat} (cd : ¬ f ((255 - k) / 8) / 2 ^ ((255 - k) % 8) % 2 = 1) (hk : k < 256) : vR (sumR (fldM sumR oR P (tops f (8 * 32) k)) (fldM sumR oR P (tops f (8 * 32) k))) = vR (fldM sumR oR P (tops f (8 * 32) (k + 1))) := by
  rw [tops_succ, show 8 * 32 - 1 - k = 255 - k by omega, fldM_0 _ _ _ _ (x := fg f (255 - k)) cd]
set_option maxHeartbeats 4000000 in
theorem rmany_r {f : Nat → Nat} (hf : ∀ i, f i < 256) {P : Nat × Nat × Nat × Nat} (hP : Gd P) (W0 : World) : Calls Tryz.prog 13 #[.agg (vR P), .agg (ck f)] W0 fun e w' => e = .returned (.agg (vR (fldM sumR oR P (tops f (8 * 32) 256)))) ∧ Below W0.heap.size W0 w' := by
  have hF : ∀ k, Gd (fldM sumR oR P (tops f (8 * 32) k)) := fun k => fldM_good (fun _ _ _ _ => sumR_gd _ _) oR_gd hP _
  have g0 : ∀ i, f i < 256 := hf
  refine s_in Tryz.func13 Tryz.ntmps13 rfl [.inl (.agg (vR P)), .inl (.agg (ck f))] ?_
  intro β a h
  refine sym_seq ?_
  refine St.rg h [(2, .inr (0, pt 0)), (3, .inr (1, pt 0)), (4, .inr (2, pt 0))] [(vR P, 38), (ck f, 23), (vR (0, 0, 0, 0), 38)] [] [eN 0, eN 1, eN 2] ?_ ?_
  · exact oc (k_bx 0 (.agg (vR P)) (bxV (v := P)) rfl rfl) <|
    oc (k_bx 1 (.agg (ck f)) (bxK (b := f)) rfl rfl) <|
    oc (k_al 2 alV rfl rfl) <|
    ok_nil
  clear h; intro β a w h
  refine sym_then ?_
  refine sym_seq ?_
  refine St.rg h [(7, .inl (.agg (vR oR))), (5, .inr (3, pt 0))] [(vR (0, 0, 0, 0), 38)] [(3, vR oR)] [nn, eN 3, eS 3] ?_ ?_
  · exact oc (k_ca 30 #[] (.agg (vR oR)) origin_v rfl rfl) <|
    oc (k_al 3 alV rfl rfl) <|
    oc (k_st 3 0 (.agg (vR oR)) (c := vR (0, 0, 0, 0)) (n := vR oR) (stV (v := oR) (c := vR (0, 0, 0, 0)) 38 (vR_size _)) rfl rfl) <|
    ok_nil
  clear h; intro β a w h
  refine sym_then ?_
  refine sym_seq ?_
  refine sym_seq ?_
  refine St.r0 h [(6, .inl (.int .i64 (255 : Nat)))] [] ?_ ?_
  · exact oz (k_mv (.inr rfl) rfl) <|
    ok_nil
  clear h; intro β a w h
  refine sym_then ?_
  refine blk_in ?_
  replace h := St.sm h 3 (vR (fldM sumR oR P (tops f (8 * 32) 0))) (c := vR oR) (t := 38) rfl
  replace h := St.ss h 6 (.int .i64 (dm 0)) (v := .int .i64 (255 : Nat)) rfl
  replace h := St.cs h (s' := [.inl (.agg (vR P)), .inl (.agg (ck f)), .inr (0, pt 0), .inr (1, pt 0), .inr (2, pt 0), .inr (3, pt 0), .inl (.int .i64 (dm 0)), .inl (.agg (vR oR)), uu, uu, uu, uu, uu, uu, uu, uu, uu, uu, uu, uu, uu, uu, uu, uu, uu, uu, uu, uu, uu]) (m' := [(vR P, 38), (ck f, 23), (vR (0, 0, 0, 0), 38), (vR (fldM sumR oR P (tops f (8 * 32) 0)), 38)]) (by kernel_rfl) (by kernel_rfl)
  refine loop_up 256 (fun k a w => ∃ (x8 x9 x10 x11 x12 x13 x14 x15 x16 x17 x18 x19 x20 x21 x22 x23 x24 x25 x26 x27 : SV) (β : Nat → Nat), St (wd W0) [.inl (.agg (vR P)), .inl (.agg (ck f)), .inr (0, pt 0), .inr (1, pt 0), .inr (2, pt 0), .inr (3, pt 0), .inl (.int .i64 (dm k)), .inl (.agg (vR oR)), x8, x9, x10, x11, x12, x13, x14, x15, x16, x17, x18, x19, x20, x21, x22, x23, x24, x25, x26, x27, uu] [(vR P, 38), (ck f, 23), (vR (0, 0, 0, 0), 38), (vR (fldM sumR oR P (tops f (8 * 32) k)), 38)] β a w) ⟨_, _, _, _, _, _, _, _, _, _, _, _, _, _, _, _, _, _, _, _, β, h⟩ ?_
  clear h; rintro k a w hkk ⟨x8, x9, x10, x11, x12, x13, x14, x15, x16, x17, x18, x19, x20, x21, x22, x23, x24, x25, x26, x27, β, h⟩; replace h := h.o0
  rcases Nat.lt_or_ge k 256 with hltk | hgek
  · by_cases cd : f ((255 - k) / 8) / 2 ^ ((255 - k) % 8) % 2 = 1
    · replace h := St.ss h 6 (.int .i64 ((255 - k) : Nat)) (v := .int .i64 (dm k)) (dm_v hltk)
      refine sym_seq ?_
      refine sym_seq ?_
      refine St.r0 h [(8, .inl (.int .i64 ((255 - k) : Nat))), (9, .inl (.bool true))] [] ?_ ?_
      · exact oz (k_mv (.inl rfl) rfl) <|
        oz (k_bi (.int .i64 ((255 - k) : Nat)) (.int .i64 (0 : Nat)) (.bool true) (ge_i (m := (((255 - k) : Nat) : Int)) (n := ((0 : Nat) : Int)) (decide_eq_true (by omega))) rfl rfl) <|
        ok_nil
      clear h; intro β a w h
      refine sym_then ?_
      refine s_ct h ?_
      refine wp_skip ?_
      refine sym_then ?_
      refine sym_seq ?_
      refine blk_in ?_
      refine sym_seq ?_
      refine St.rg h [(12, .inl (.agg (vR (fldM sumR oR P (tops f (8 * 32) k))))), (13, .inl (.agg (vR (fldM sumR oR P (tops f (8 * 32) k))))), (14, .inl (.agg (vR (sumR (fldM sumR oR P (tops f (8 * 32) k)) (fldM sumR oR P (tops f (8 * 32) k))))))] [] [(3, vR (sumR (fldM sumR oR P (tops f (8 * 32) k)) (fldM sumR oR P (tops f (8 * 32) k))))] [eR 3, eR 3, nn, eS 3] ?_ ?_
      · exact oc (k_ld 3 0 (.agg (vR (fldM sumR oR P (tops f (8 * 32) k)))) (c := vR (fldM sumR oR P (tops f (8 * 32) k))) (ldV (v := (fldM sumR oR P (tops f (8 * 32) k))) 38) rfl rfl) <|
        oc (k_ld 3 0 (.agg (vR (fldM sumR oR P (tops f (8 * 32) k)))) (c := vR (fldM sumR oR P (tops f (8 * 32) k))) (ldV (v := (fldM sumR oR P (tops f (8 * 32) k))) 38) rfl rfl) <|
        oc (k_ca 31 #[.agg (vR (fldM sumR oR P (tops f (8 * 32) k))), .agg (vR (fldM sumR oR P (tops f (8 * 32) k)))] (.agg (vR (sumR (fldM sumR oR P (tops f (8 * 32) k)) (fldM sumR oR P (tops f (8 * 32) k))))) (fun w => plus_v2 (hF k) (hF k) w) rfl rfl) <|
        oc (k_st 3 0 (.agg (vR (sumR (fldM sumR oR P (tops f (8 * 32) k)) (fldM sumR oR P (tops f (8 * 32) k))))) (c := vR (fldM sumR oR P (tops f (8 * 32) k))) (n := vR (sumR (fldM sumR oR P (tops f (8 * 32) k)) (fldM sumR oR P (tops f (8 * 32) k)))) (stV (v := (sumR (fldM sumR oR P (tops f (8 * 32) k)) (fldM sumR oR P (tops f (8 * 32) k)))) (c := vR (fldM sumR oR P (tops f (8 * 32) k))) 38 (vR_size _)) rfl rfl) <|
        ok_nil
      clear h; intro β a w h
      refine sym_then ?_
      refine sym_seq ?_
      refine St.r0 h [(15, .inl (.int .i64 ((255 - k) : Nat))), (16, .inl (.int .i64 (((255 - k) / 8) : Nat))), (17, .inr (1, pt ((255 - k) / 8))), (18, .inl (.int .u8 ((f ((255 - k) / 8)) : Nat))), (19, .inl (.int .i64 ((255 - k) : Nat))), (20, .inl (.int .i64 (((255 - k) % 8) : Nat))), (21, .inl (.int .u64 (((255 - k) % 8) : Nat))), (22, .inl (.int .u8 (((f ((255 - k) / 8)) / 2 ^ ((255 - k) % 8)) : Nat))), (23, .inl (.int .u8 ((((f ((255 - k) / 8)) / 2 ^ ((255 - k) % 8)) % 2) : Nat))), (24, .inl (.bool true))] [nn, nn, nn, eR 1] ?_ ?_
      · exact oc (k_mv (.inl rfl) rfl) <|
        oc (k_bi (.int .i64 ((255 - k) : Nat)) (.int .i64 (8 : Nat)) (.int .i64 (((255 - k) / 8) : Nat)) (qu_i (m := (255 - k)) (n := 8) (by decide) (by omega)) rfl rfl) <|
        oc (k_ia 1 0 (((255 - k) / 8)) (.int .i64 (((255 - k) / 8) : Nat)) (ixK (i := ((255 - k) / 8)) (by omega)) rfl rfl) <|
        oc (k_ld 1 (((255 - k) / 8)) (.int .u8 ((f ((255 - k) / 8)) : Nat)) (c := ck f) (ld_k (F := f) (i := ((255 - k) / 8)) (t0 := 23) (by omega)) rfl rfl) <|
        oz (k_mv (.inl rfl) rfl) <|
        oz (k_bi (.int .i64 ((255 - k) : Nat)) (.int .i64 (8 : Nat)) (.int .i64 (((255 - k) % 8) : Nat)) (re_i (m := (255 - k)) (n := 8) (by decide)) rfl rfl) <|
        oz (k_co (.int .i64 (((255 - k) % 8) : Nat)) (.int .u64 (((255 - k) % 8) : Nat)) (cv_iu (n := ((255 - k) % 8)) (by omega)) rfl rfl) <|
        oz (k_bi (.int .u8 ((f ((255 - k) / 8)) : Nat)) (.int .u64 (((255 - k) % 8) : Nat)) (.int .u8 (((f ((255 - k) / 8)) / 2 ^ ((255 - k) % 8)) : Nat)) (sr_b (m := (f ((255 - k) / 8))) (r := ((255 - k) % 8)) (by omega)) rfl rfl) <|
        oz (k_bi (.int .u8 (((f ((255 - k) / 8)) / 2 ^ ((255 - k) % 8)) : Nat)) (.int .u8 (2 : Nat)) (.int .u8 ((((f ((255 - k) / 8)) / 2 ^ ((255 - k) % 8)) % 2) : Nat)) (re_b2 (m := ((f ((255 - k) / 8)) / 2 ^ ((255 - k) % 8)))) rfl rfl) <|
        oz (k_bi (.int .u8 ((((f ((255 - k) / 8)) / 2 ^ ((255 - k) % 8)) % 2) : Nat)) (.int .u8 (1 : Nat)) (.bool true) (eq_b (m := (((f ((255 - k) / 8)) / 2 ^ ((255 - k) % 8)) % 2)) (n := 1) (decide_eq_true cd)) rfl rfl) <|
        ok_nil
      clear h; intro β a w h
      refine sym_then ?_
      refine s_ct h ?_
      refine St.rg h [(25, .inl (.agg (vR (sumR (fldM sumR oR P (tops f (8 * 32) k)) (fldM sumR oR P (tops f (8 * 32) k)))))), (26, .inl (.agg (vR P))), (27, .inl (.agg (vR (sumR (sumR (fldM sumR oR P (tops f (8 * 32) k)) (fldM sumR oR P (tops f (8 * 32) k))) P))))] [] [(3, vR (sumR (sumR (fldM sumR oR P (tops f (8 * 32) k)) (fldM sumR oR P (tops f (8 * 32) k))) P))] [eR 3, eR 0, nn, eS 3] ?_ ?_
      · exact oc (k_ld 3 0 (.agg (vR (sumR (fldM sumR oR P (tops f (8 * 32) k)) (fldM sumR oR P (tops f (8 * 32) k))))) (c := vR (sumR (fldM sumR oR P (tops f (8 * 32) k)) (fldM sumR oR P (tops f (8 * 32) k)))) (ldV (v := (sumR (fldM sumR oR P (tops f (8 * 32) k)) (fldM sumR oR P (tops f (8 * 32) k)))) 38) rfl rfl) <|
        oc (k_ld 0 0 (.agg (vR P)) (c := vR P) (ldV (v := P) 38) rfl rfl) <|
        oc (k_ca 31 #[.agg (vR (sumR (fldM sumR oR P (tops f (8 * 32) k)) (fldM sumR oR P (tops f (8 * 32) k)))), .agg (vR P)] (.agg (vR (sumR (sumR (fldM sumR oR P (tops f (8 * 32) k)) (fldM sumR oR P (tops f (8 * 32) k))) P))) (fun w => plus_v2 (sumR_gd _ _) hP w) rfl rfl) <|
        oc (k_st 3 0 (.agg (vR (sumR (sumR (fldM sumR oR P (tops f (8 * 32) k)) (fldM sumR oR P (tops f (8 * 32) k))) P))) (c := vR (sumR (fldM sumR oR P (tops f (8 * 32) k)) (fldM sumR oR P (tops f (8 * 32) k)))) (n := vR (sumR (sumR (fldM sumR oR P (tops f (8 * 32) k)) (fldM sumR oR P (tops f (8 * 32) k))) P)) (stV (v := (sumR (sumR (fldM sumR oR P (tops f (8 * 32) k)) (fldM sumR oR P (tops f (8 * 32) k))) P)) (c := vR (sumR (fldM sumR oR P (tops f (8 * 32) k)) (fldM sumR oR P (tops f (8 * 32) k)))) 38 (vR_size _)) rfl rfl) <|
        ok_nil
      clear h; intro β a w h
      refine blk_norm ?_
      refine sym_then ?_
      refine St.r0 h [(10, .inl (.int .i64 ((255 - k) : Nat))), (11, .inl (.int .i64 (dm (k + 1)))), (6, .inl (.int .i64 (dm (k + 1))))] [eO] ?_ ?_
      · exact oc (k_m0 rfl rfl) <|
        oz (k_bi (.int .i64 ((255 - k) : Nat)) (.int .i64 (1 : Nat)) (.int .i64 (dm (k + 1))) (sb_dm hltk) rfl rfl) <|
        oz (k_mv (.inr rfl) rfl) <|
        ok_nil
      clear h; intro β a w h
      replace h := St.sm h 3 (vR (fldM sumR oR P (tops f (8 * 32) (k + 1)))) (c := vR (sumR (sumR (fldM sumR oR P (tops f (8 * 32) k)) (fldM sumR oR P (tops f (8 * 32) k))) P)) (t := 38) (vR_1 cd hltk)
      replace h := St.cs h (s' := [.inl (.agg (vR P)), .inl (.agg (ck f)), .inr (0, pt 0), .inr (1, pt 0), .inr (2, pt 0), .inr (3, pt 0), .inl (.int .i64 (dm (k + 1))), .inl (.agg (vR oR)), .inl (.int .i64 ((255 - k) : Nat)), .inl (.bool true), .inl (.int .i64 ((255 - k) : Nat)), .inl (.int .i64 (dm (k + 1))), .inl (.agg (vR (fldM sumR oR P (tops f (8 * 32) k)))), .inl (.agg (vR (fldM sumR oR P (tops f (8 * 32) k)))), .inl (.agg (vR (sumR (fldM sumR oR P (tops f (8 * 32) k)) (fldM sumR oR P (tops f (8 * 32) k))))), .inl (.int .i64 ((255 - k) : Nat)), .inl (.int .i64 (((255 - k) / 8) : Nat)), .inr (1, pt ((255 - k) / 8)), .inl (.int .u8 ((f ((255 - k) / 8)) : Nat)), .inl (.int .i64 ((255 - k) : Nat)), .inl (.int .i64 (((255 - k) % 8) : Nat)), .inl (.int .u64 (((255 - k) % 8) : Nat)), .inl (.int .u8 (((f ((255 - k) / 8)) / 2 ^ ((255 - k) % 8)) : Nat)), .inl (.int .u8 ((((f ((255 - k) / 8)) / 2 ^ ((255 - k) % 8)) % 2) : Nat)), .inl (.bool true), .inl (.agg (vR (sumR (fldM sumR oR P (tops f (8 * 32) k)) (fldM sumR oR P (tops f (8 * 32) k))))), .inl (.agg (vR P)), .inl (.agg (vR (sumR (sumR (fldM sumR oR P (tops f (8 * 32) k)) (fldM sumR oR P (tops f (8 * 32) k))) P))), uu]) (m' := [(vR P, 38), (ck f, 23), (vR (0, 0, 0, 0), 38), (vR (fldM sumR oR P (tops f (8 * 32) (k + 1))), 38)]) (by kernel_rfl) (by kernel_rfl)
      exact ⟨hltk, _, _, _, _, _, _, _, _, _, _, _, _, _, _, _, _, _, _, _, _, _, h⟩
    · replace h := St.ss h 6 (.int .i64 ((255 - k) : Nat)) (v := .int .i64 (dm k)) (dm_v hltk)
      refine sym_seq ?_
      refine sym_seq ?_
      refine St.r0 h [(8, .inl (.int .i64 ((255 - k) : Nat))), (9, .inl (.bool true))] [] ?_ ?_
      · exact oz (k_mv (.inl rfl) rfl) <|
        oz (k_bi (.int .i64 ((255 - k) : Nat)) (.int .i64 (0 : Nat)) (.bool true) (ge_i (m := (((255 - k) : Nat) : Int)) (n := ((0 : Nat) : Int)) (decide_eq_true (by omega))) rfl rfl) <|
        ok_nil
      clear h; intro β a w h
      refine sym_then ?_
      refine s_ct h ?_
      refine wp_skip ?_
      refine sym_then ?_
      refine sym_seq ?_
      refine blk_in ?_
      refine sym_seq ?_
      refine St.rg h [(12, .inl (.agg (vR (fldM sumR oR P (tops f (8 * 32) k))))), (13, .inl (.agg (vR (fldM sumR oR P (tops f (8 * 32) k))))), (14, .inl (.agg (vR (sumR (fldM sumR oR P (tops f (8 * 32) k)) (fldM sumR oR P (tops f (8 * 32) k))))))] [] [(3, vR (sumR (fldM sumR oR P (tops f (8 * 32) k)) (fldM sumR oR P (tops f (8 * 32) k))))] [eR 3, eR 3, nn, eS 3] ?_ ?_
      · exact oc (k_ld 3 0 (.agg (vR (fldM sumR oR P (tops f (8 * 32) k)))) (c := vR (fldM sumR oR P (tops f (8 * 32) k))) (ldV (v := (fldM sumR oR P (tops f (8 * 32) k))) 38) rfl rfl) <|
        oc (k_ld 3 0 (.agg (vR (fldM sumR oR P (tops f (8 * 32) k)))) (c := vR (fldM sumR oR P (tops f (8 * 32) k))) (ldV (v := (fldM sumR oR P (tops f (8 * 32) k))) 38) rfl rfl) <|
        oc (k_ca 31 #[.agg (vR (fldM sumR oR P (tops f (8 * 32) k))), .agg (vR (fldM sumR oR P (tops f (8 * 32) k)))] (.agg (vR (sumR (fldM sumR oR P (tops f (8 * 32) k)) (fldM sumR oR P (tops f (8 * 32) k))))) (fun w => plus_v2 (hF k) (hF k) w) rfl rfl) <|
        oc (k_st 3 0 (.agg (vR (sumR (fldM sumR oR P (tops f (8 * 32) k)) (fldM sumR oR P (tops f (8 * 32) k))))) (c := vR (fldM sumR oR P (tops f (8 * 32) k))) (n := vR (sumR (fldM sumR oR P (tops f (8 * 32) k)) (fldM sumR oR P (tops f (8 * 32) k)))) (stV (v := (sumR (fldM sumR oR P (tops f (8 * 32) k)) (fldM sumR oR P (tops f (8 * 32) k)))) (c := vR (fldM sumR oR P (tops f (8 * 32) k))) 38 (vR_size _)) rfl rfl) <|
        ok_nil
      clear h; intro β a w h
      refine sym_then ?_
      refine sym_seq ?_
      refine St.r0 h [(15, .inl (.int .i64 ((255 - k) : Nat))), (16, .inl (.int .i64 (((255 - k) / 8) : Nat))), (17, .inr (1, pt ((255 - k) / 8))), (18, .inl (.int .u8 ((f ((255 - k) / 8)) : Nat))), (19, .inl (.int .i64 ((255 - k) : Nat))), (20, .inl (.int .i64 (((255 - k) % 8) : Nat))), (21, .inl (.int .u64 (((255 - k) % 8) : Nat))), (22, .inl (.int .u8 (((f ((255 - k) / 8)) / 2 ^ ((255 - k) % 8)) : Nat))), (23, .inl (.int .u8 ((((f ((255 - k) / 8)) / 2 ^ ((255 - k) % 8)) % 2) : Nat))), (24, .inl (.bool false))] [nn, nn, nn, eR 1] ?_ ?_
      · exact oc (k_mv (.inl rfl) rfl) <|
        oc (k_bi (.int .i64 ((255 - k) : Nat)) (.int .i64 (8 : Nat)) (.int .i64 (((255 - k) / 8) : Nat)) (qu_i (m := (255 - k)) (n := 8) (by decide) (by omega)) rfl rfl) <|
        oc (k_ia 1 0 (((255 - k) / 8)) (.int .i64 (((255 - k) / 8) : Nat)) (ixK (i := ((255 - k) / 8)) (by omega)) rfl rfl) <|
        oc (k_ld 1 (((255 - k) / 8)) (.int .u8 ((f ((255 - k) / 8)) : Nat)) (c := ck f) (ld_k (F := f) (i := ((255 - k) / 8)) (t0 := 23) (by omega)) rfl rfl) <|
        oz (k_mv (.inl rfl) rfl) <|
        oz (k_bi (.int .i64 ((255 - k) : Nat)) (.int .i64 (8 : Nat)) (.int .i64 (((255 - k) % 8) : Nat)) (re_i (m := (255 - k)) (n := 8) (by decide)) rfl rfl) <|
        oz (k_co (.int .i64 (((255 - k) % 8) : Nat)) (.int .u64 (((255 - k) % 8) : Nat)) (cv_iu (n := ((255 - k) % 8)) (by omega)) rfl rfl) <|
        oz (k_bi (.int .u8 ((f ((255 - k) / 8)) : Nat)) (.int .u64 (((255 - k) % 8) : Nat)) (.int .u8 (((f ((255 - k) / 8)) / 2 ^ ((255 - k) % 8)) : Nat)) (sr_b (m := (f ((255 - k) / 8))) (r := ((255 - k) % 8)) (by omega)) rfl rfl) <|
        oz (k_bi (.int .u8 (((f ((255 - k) / 8)) / 2 ^ ((255 - k) % 8)) : Nat)) (.int .u8 (2 : Nat)) (.int .u8 ((((f ((255 - k) / 8)) / 2 ^ ((255 - k) % 8)) % 2) : Nat)) (re_b2 (m := ((f ((255 - k) / 8)) / 2 ^ ((255 - k) % 8)))) rfl rfl) <|
        oz (k_bi (.int .u8 ((((f ((255 - k) / 8)) / 2 ^ ((255 - k) % 8)) % 2) : Nat)) (.int .u8 (1 : Nat)) (.bool false) (eq_b (m := (((f ((255 - k) / 8)) / 2 ^ ((255 - k) % 8)) % 2)) (n := 1) (decide_eq_false cd)) rfl rfl) <|
        ok_nil
      clear h; intro β a w h
      refine sym_then ?_
      refine s_cf h ?_
      refine wp_skip ?_
      refine blk_norm ?_
      refine sym_then ?_
      refine St.r0 h [(10, .inl (.int .i64 ((255 - k) : Nat))), (11, .inl (.int .i64 (dm (k + 1)))), (6, .inl (.int .i64 (dm (k + 1))))] [eO] ?_ ?_
      · exact oc (k_m0 rfl rfl) <|
        oz (k_bi (.int .i64 ((255 - k) : Nat)) (.int .i64 (1 : Nat)) (.int .i64 (dm (k + 1))) (sb_dm hltk) rfl rfl) <|
        oz (k_mv (.inr rfl) rfl) <|
        ok_nil
      clear h; intro β a w h
      replace h := St.sm h 3 (vR (fldM sumR oR P (tops f (8 * 32) (k + 1)))) (c := vR (sumR (fldM sumR oR P (tops f (8 * 32) k)) (fldM sumR oR P (tops f (8 * 32) k)))) (t := 38) (vR_0 cd hltk)
      replace h := St.cs h (s' := [.inl (.agg (vR P)), .inl (.agg (ck f)), .inr (0, pt 0), .inr (1, pt 0), .inr (2, pt 0), .inr (3, pt 0), .inl (.int .i64 (dm (k + 1))), .inl (.agg (vR oR)), .inl (.int .i64 ((255 - k) : Nat)), .inl (.bool true), .inl (.int .i64 ((255 - k) : Nat)), .inl (.int .i64 (dm (k + 1))), .inl (.agg (vR (fldM sumR oR P (tops f (8 * 32) k)))), .inl (.agg (vR (fldM sumR oR P (tops f (8 * 32) k)))), .inl (.agg (vR (sumR (fldM sumR oR P (tops f (8 * 32) k)) (fldM sumR oR P (tops f (8 * 32) k))))), .inl (.int .i64 ((255 - k) : Nat)), .inl (.int .i64 (((255 - k) / 8) : Nat)), .inr (1, pt ((255 - k) / 8)), .inl (.int .u8 ((f ((255 - k) / 8)) : Nat)), .inl (.int .i64 ((255 - k) : Nat)), .inl (.int .i64 (((255 - k) % 8) : Nat)), .inl (.int .u64 (((255 - k) % 8) : Nat)), .inl (.int .u8 (((f ((255 - k) / 8)) / 2 ^ ((255 - k) % 8)) : Nat)), .inl (.int .u8 ((((f ((255 - k) / 8)) / 2 ^ ((255 - k) % 8)) % 2) : Nat)), .inl (.bool false), x25, x26, x27, uu]) (m' := [(vR P, 38), (ck f, 23), (vR (0, 0, 0, 0), 38), (vR (fldM sumR oR P (tops f (8 * 32) (k + 1))), 38)]) (by kernel_rfl) (by kernel_rfl)
      exact ⟨hltk, _, _, _, _, _, _, _, _, _, _, _, _, _, _, _, _, _, _, _, _, _, h⟩
  · obtain rfl : k = 256 := by omega
    refine sym_seq ?_
    refine sym_seq ?_
    refine St.r0 h [(8, .inl (.int .i64 (dm 256))), (9, .inl (.bool false))] [] ?_ ?_
    · exact oz (k_mv (.inl rfl) rfl) <|
      oz (k_bi (.int .i64 (dm 256)) (.int .i64 (0 : Nat)) (.bool false) (ge_i (m := dm 256) (n := ((0 : Nat) : Int)) (decide_eq_false (by unfold dm; omega))) rfl rfl) <|
      ok_nil
    clear h; intro β a w h
    refine sym_then ?_
    refine s_cf h ?_
    refine wp_exit ?_
    refine then_exit ?_
    refine then_exit ?_
    refine blk_exit ?_
    refine sym_then ?_
    refine sym_seq ?_
    refine St.rg h [(28, .inl (.agg (vR (fldM sumR oR P (tops f (8 * 32) 256)))))] [] [(2, vR (fldM sumR oR P (tops f (8 * 32) 256)))] [eR 3, eS 2] ?_ ?_
    · exact oc (k_ld 3 0 (.agg (vR (fldM sumR oR P (tops f (8 * 32) 256)))) (c := vR (fldM sumR oR P (tops f (8 * 32) 256))) (ldV (v := (fldM sumR oR P (tops f (8 * 32) 256))) 38) rfl rfl) <|
      oc (k_st 2 0 (.agg (vR (fldM sumR oR P (tops f (8 * 32) 256)))) (c := vR (0, 0, 0, 0)) (n := vR (fldM sumR oR P (tops f (8 * 32) 256))) (stV (v := (fldM sumR oR P (tops f (8 * 32) 256))) (c := vR (0, 0, 0, 0)) 38 (vR_size _)) rfl rfl) <|
      ok_nil
    clear h; intro β a w h
    refine sym_then ?_
    refine wp_ret ?_
    exact s_rc (b := 2) (t0 := 38) (c := vR (fldM sumR oR P (tops f (8 * 32) 256))) h Tryz.results13 Tryz.underlying38 (fun hb => ⟨rfl, hb⟩) (by rw [vR_size]; kernel_rfl)
end Go.Proofs.YtacokkedomjgpaaGreatDoor

namespace Go.Proofs.YtacokkedomjgpaaGreatDoor
open Go.RowKit Lo
theorem rlong_d {aa : Option Addr} {len cap : Nat} {f : Nat → Nat} {W0 : World} (hb : Bs W0 aa len f) (hlen : len ≤ 1099511627776) : Calls Tryz.prog 27 #[.slice aa len cap] W0 fun e w' => e = .returned (.agg (cw (lg len f))) ∧ Below W0.heap.size W0 w' := by
  have := refLong_r (cap := cap) hb hlen
  rw [oF_e] at this
  exact this
theorem re_c {x u : Operand} {m k : Nat} (hk : ((k : Nat) : Int) ≠ 0) (w : World) : (do eqGuard .rem 5 x u (.int .u8 (m : Nat)) (.int .u8 (k : Nat)); binOp .rem 5 (.int .u8 (m : Nat)) (.int .u8 (k : Nat))).run Tryz.prog w = .ok (.int .u8 (m % k : Nat)) w := by
  have h1 : (m : Int).tmod (k : Int) = ((m % k : Nat) : Int) := by rw [Int.tmod_eq_emod_of_nonneg (by omega), Int.natCast_emod]
  have h2 : ¬ k = 0 := by omega
  simp [eqGuard, binOp, go_sem, h1, h2]
theorem sb_c {x u : Operand} {m n : Nat} (h : n ≤ m) (hm : m < 256) (w : World) : (do eqGuard .sub 5 x u (.int .u8 (m : Nat)) (.int .u8 (n : Nat)); binOp .sub 5 (.int .u8 (m : Nat)) (.int .u8 (n : Nat))).run Tryz.prog w = .ok (.int .u8 (m - n : Nat)) w := by
  have h1 : IntKind.u8.wrap ((m : Int) - (n : Int)) = ((m - n : Nat) : Int) := by simp [IntKind.wrap, IntKind.bits, IntKind.signed]; omega
  simp [eqGuard, binOp, go_sem, h1]
def rclm (F : Nat → Nat) : Nat → Nat := (updN (updN F 0 ((F 0) - ((F 0) % 8))) 31 ((((updN F 0 ((F 0) - ((F 0) % 8))) 31) % 64) + 64))
theorem rclm_e (F : Nat → Nat) : ck (rclm F) = ck (clmp F) := arr_congr fun i _ => by
  have : rclm F i = clmp F i := by
    unfold rclm clmp updN
    by_cases e : i = 31
    · subst e; simp
      try omega
    · by_cases e0 : i = 0
      · subst e0; simp
        omega
      · simp [e, e0]
  rw [this]
set_option maxHeartbeats 4000000 in
theorem rsec_r {f F : Nat → Nat} (hF : ∀ i, F i < 256) (W0 : World) (cL0 : ∀ (w : World) (q : Nat), Below W0.heap.size W0 w → w.heap[q]? = some (.cells (ck f) 23 (0, 0)) → Calls Tryz.prog 27 #[.slice (some ⟨q, 0, none⟩) 32 32] w fun e w' => e = .returned (.agg (cw F)) ∧ Below w.heap.size w w') :
    Calls Tryz.prog 11 #[.agg (ck f)] W0 fun e w' => e = .returned (.tuple #[.agg (ck (rclm F)), .agg (ck (hi32 F))]) ∧ Below W0.heap.size W0 w' := by
  refine s_in Tryz.func11 Tryz.ntmps11 rfl [.inl (.agg (ck f))] ?_
  intro β a h
  refine sym_seq ?_
  refine St.rg h [(1, .inr (0, pt 0)), (2, .inr (1, pt 0)), (3, .inr (2, pt 0))] [(ck f, 23), (ck (fun _ => 0), 23), (ck (fun _ => 0), 23)] [] [eN 0, eN 1, eN 2] ?_ ?_
  · exact oc (k_bx 0 (.agg (ck f)) (bxK (b := f)) rfl rfl) <|
    oc (k_al 1 alK rfl rfl) <|
    oc (k_al 2 alK rfl rfl) <|
    ok_nil
  clear h; intro β a w h
  refine sym_then ?_
  refine sym_seq ?_
  refine St.rg h [(7, .inr (0, sl 0 32 32)), (8, .inl (.agg (cw F))), (9, .inl (.tuple #[.agg (ck F), .agg (ck (hi32 F))])), (6, .inl (.tuple #[.agg (ck F), .agg (ck (hi32 F))])), (10, .inl (.agg (ck F))), (11, .inl (.agg (ck (hi32 F)))), (4, .inr (3, pt 0)), (5, .inr (4, pt 0))] [(ck (fun _ => 0), 23), (ck (fun _ => 0), 23)] [(3, ck F), (4, ck (hi32 F))] [nn, eR 0, nn, nn, nn, nn, eN 3, eN 4, eS 3, eS 4] ?_ ?_
  · exact oc (k_sl 0 32 rfl rfl sl_key) <|
    oc (k_cb 27 (fun q => #[.slice (some ⟨q, 0, none⟩) 32 32]) (.agg (cw F)) 0 7 (fun w q hk hq => cL0 w q (KW.below hk) hq) rfl rfl (by simp) (fm := sl 0 32 32)) <|
    oc (k_ca 26 #[.agg (cw F)] (.tuple #[.agg (ck F), .agg (ck (hi32 F))]) (fun w => rcut_d F w) rfl rfl) <|
    oc (k_mv (.inl rfl) rfl) <|
    oc (k_ex (.tuple #[.agg (ck F), .agg (ck (hi32 F))]) (.agg (ck F)) rfl rfl) <|
    oc (k_ex (.tuple #[.agg (ck F), .agg (ck (hi32 F))]) (.agg (ck (hi32 F))) rfl rfl) <|
    oc (k_al 3 alK rfl rfl) <|
    oc (k_al 4 alK rfl rfl) <|
    oc (k_st 3 0 (.agg (ck F)) (c := ck (fun _ => 0)) (n := ck F) (stK (F := F) (c := ck (fun _ => 0)) 23 (ck_size _)) rfl rfl) <|
    oc (k_st 4 0 (.agg (ck (hi32 F))) (c := ck (fun _ => 0)) (n := ck (hi32 F)) (stK (F := (hi32 F)) (c := ck (fun _ => 0)) 23 (ck_size _)) rfl rfl) <|
    ok_nil
  clear h; intro β a w h
  refine sym_then ?_
  refine sym_seq ?_
  refine St.rg h [(12, .inr (3, pt 0)), (13, .inl (.int .u8 ((F 0) : Nat))), (14, .inr (3, pt 0)), (15, .inl (.int .u8 ((F 0) : Nat))), (16, .inl (.int .u8 (((F 0) % 8) : Nat))), (17, .inl (.int .u8 (((F 0) - ((F 0) % 8)) : Nat))), (18, .inr (3, pt 0))] [] [(3, ck (updN F 0 ((F 0) - ((F 0) % 8))))] [nn, eR 3, nn, eR 3, nn, nn, nn, eS 3] ?_ ?_
  · exact oc (k_ia 3 0 0 (.int .i64 (0 : Nat)) (ix_key (i := 0) (by omega)) rfl rfl) <|
    oc (k_ld 3 0 (.int .u8 ((F 0) : Nat)) (c := ck F) (ld_k (F := F) (i := 0) (t0 := 23) (by omega)) rfl rfl) <|
    oc (k_ia 3 0 0 (.int .i64 (0 : Nat)) (ix_key (i := 0) (by omega)) rfl rfl) <|
    oc (k_ld 3 0 (.int .u8 ((F 0) : Nat)) (c := ck F) (ld_k (F := F) (i := 0) (t0 := 23) (by omega)) rfl rfl) <|
    oc (k_bi (.int .u8 ((F 0) : Nat)) (.int .u8 (8 : Nat)) (.int .u8 (((F 0) % 8) : Nat)) (re_c (m := (F 0)) (k := 8) (by decide)) rfl rfl) <|
    oc (k_bi (.int .u8 ((F 0) : Nat)) (.int .u8 (((F 0) % 8) : Nat)) (.int .u8 (((F 0) - ((F 0) % 8)) : Nat)) (sb_c (m := (F 0)) (n := ((F 0) % 8)) (Nat.mod_le _ _) (hF _)) rfl rfl) <|
    oc (k_ia 3 0 0 (.int .i64 (0 : Nat)) (ix_key (i := 0) (by omega)) rfl rfl) <|
    oc (k_st 3 0 (.int .u8 (((F 0) - ((F 0) % 8)) : Nat)) (c := ck F) (n := ck (updN F 0 ((F 0) - ((F 0) % 8)))) (st_k (F := F) (i := 0) (v := ((F 0) - ((F 0) % 8))) (t0 := 23) (by omega)) rfl rfl) <|
    ok_nil
  clear h; intro β a w h
  refine sym_then ?_
  refine sym_seq ?_
  refine St.rg h [(19, .inr (3, pt 31)), (20, .inl (.int .u8 (((updN F 0 ((F 0) - ((F 0) % 8))) 31) : Nat))), (21, .inl (.int .u8 (((((updN F 0 ((F 0) - ((F 0) % 8))) 31) % 64) : Nat) : Int))), (22, .inl (.int .u8 ((((((updN F 0 ((F 0) - ((F 0) % 8))) 31) % 64) + 64) : Nat) : Int))), (23, .inr (3, pt 31))] [] [(3, ck (updN (updN F 0 ((F 0) - ((F 0) % 8))) 31 ((((updN F 0 ((F 0) - ((F 0) % 8))) 31) % 64) + 64)))] [nn, eR 3, nn, nn, nn, eS 3] ?_ ?_
  · exact oc (k_ia 3 0 31 (.int .i64 (31 : Nat)) (ix_key (i := 31) (by omega)) rfl rfl) <|
    oc (k_ld 3 31 (.int .u8 (((updN F 0 ((F 0) - ((F 0) % 8))) 31) : Nat)) (c := ck (updN F 0 ((F 0) - ((F 0) % 8)))) (ld_k (F := (updN F 0 ((F 0) - ((F 0) % 8)))) (i := 31) (t0 := 23) (by omega)) rfl rfl) <|
    oc (k_bi (.int .u8 (((updN F 0 ((F 0) - ((F 0) % 8))) 31) : Nat)) (.int .u8 (64 : Nat)) (.int .u8 (((((updN F 0 ((F 0) - ((F 0) % 8))) 31) % 64) : Nat) : Int)) (re_c (m := ((updN F 0 ((F 0) - ((F 0) % 8))) 31)) (k := 64) (by decide)) rfl rfl) <|
    oc (k_bi (.int .u8 (((((updN F 0 ((F 0) - ((F 0) % 8))) 31) % 64) : Nat) : Int)) (.int .u8 (64 : Nat)) (.int .u8 ((((((updN F 0 ((F 0) - ((F 0) % 8))) 31) % 64) + 64) : Nat) : Int)) (ad_b (m := (((updN F 0 ((F 0) - ((F 0) % 8))) 31) % 64)) (n := 64) (by omega)) rfl rfl) <|
    oc (k_ia 3 0 31 (.int .i64 (31 : Nat)) (ix_key (i := 31) (by omega)) rfl rfl) <|
    oc (k_st 3 31 (.int .u8 ((((((updN F 0 ((F 0) - ((F 0) % 8))) 31) % 64) + 64) : Nat) : Int)) (c := ck (updN F 0 ((F 0) - ((F 0) % 8)))) (n := ck (updN (updN F 0 ((F 0) - ((F 0) % 8))) 31 ((((updN F 0 ((F 0) - ((F 0) % 8))) 31) % 64) + 64))) (st_k (F := (updN F 0 ((F 0) - ((F 0) % 8)))) (i := 31) (v := ((((updN F 0 ((F 0) - ((F 0) % 8))) 31) % 64) + 64)) (t0 := 23) (by omega)) rfl rfl) <|
    ok_nil
  clear h; intro β a w h
  refine sym_then ?_
  refine sym_seq ?_
  refine St.rg h [(24, .inl (.agg (ck (updN (updN F 0 ((F 0) - ((F 0) % 8))) 31 ((((updN F 0 ((F 0) - ((F 0) % 8))) 31) % 64) + 64))))), (25, .inl (.agg (ck (hi32 F))))] [] [(1, ck (updN (updN F 0 ((F 0) - ((F 0) % 8))) 31 ((((updN F 0 ((F 0) - ((F 0) % 8))) 31) % 64) + 64))), (2, ck (hi32 F))] [eR 3, eR 4, eS 1, eS 2] ?_ ?_
  · exact oc (k_ld 3 0 (.agg (ck (updN (updN F 0 ((F 0) - ((F 0) % 8))) 31 ((((updN F 0 ((F 0) - ((F 0) % 8))) 31) % 64) + 64)))) (c := ck (updN (updN F 0 ((F 0) - ((F 0) % 8))) 31 ((((updN F 0 ((F 0) - ((F 0) % 8))) 31) % 64) + 64))) (ldK (b := (updN (updN F 0 ((F 0) - ((F 0) % 8))) 31 ((((updN F 0 ((F 0) - ((F 0) % 8))) 31) % 64) + 64))) 23) rfl rfl) <|
    oc (k_ld 4 0 (.agg (ck (hi32 F))) (c := ck (hi32 F)) (ldK (b := (hi32 F)) 23) rfl rfl) <|
    oc (k_st 1 0 (.agg (ck (updN (updN F 0 ((F 0) - ((F 0) % 8))) 31 ((((updN F 0 ((F 0) - ((F 0) % 8))) 31) % 64) + 64)))) (c := ck (fun _ => 0)) (n := ck (updN (updN F 0 ((F 0) - ((F 0) % 8))) 31 ((((updN F 0 ((F 0) - ((F 0) % 8))) 31) % 64) + 64))) (stK (F := (updN (updN F 0 ((F 0) - ((F 0) % 8))) 31 ((((updN F 0 ((F 0) - ((F 0) % 8))) 31) % 64) + 64))) (c := ck (fun _ => 0)) 23 (ck_size _)) rfl rfl) <|
    oc (k_st 2 0 (.agg (ck (hi32 F))) (c := ck (fun _ => 0)) (n := ck (hi32 F)) (stK (F := (hi32 F)) (c := ck (fun _ => 0)) 23 (ck_size _)) rfl rfl) <|
    ok_nil
  clear h; intro β a w h
  refine sym_then ?_
  refine wp_ret ?_
  exact s_rr (b := 1) (t0 := 23) (c := ck (updN (updN F 0 ((F 0) - ((F 0) % 8))) 31 ((((updN F 0 ((F 0) - ((F 0) % 8))) 31) % 64) + 64))) (b' := 2) (t0' := 23) (c' := ck (hi32 F)) h Tryz.results11 Tryz.underlying23 Tryz.underlying23 (fun hb => ⟨rfl, hb⟩) (by rw [ck_size]; kernel_rfl) (by rw [ck_size]; kernel_rfl)
theorem rsec_d {f : Nat → Nat} (hf : ∀ i, f i < 256) (W0 : World) : Calls Tryz.prog 11 #[.agg (ck f)] W0 fun e w' => e = .returned (.tuple #[.agg (ck (clmp (lg 32 f))), .agg (ck (hi32 (lg 32 f)))]) ∧ Below W0.heap.size W0 w' := by
  have := rsec_r (f := f) (lg_lt 32 f) W0 (fun w q _ hq => rlong_d (bs_key hf hq) (by decide))
  rwa [rclm_e] at this
def rG : Nat × Nat × Nat × Nat := (gX, ad gB 1, 1, mu gX (ad gB 1))
set_option maxHeartbeats 4000000 in
theorem rgen_r (W0 : World) : Calls Tryz.prog 14 #[] W0 fun e w' => e = .returned (.agg (cis [gX, (ad gB 1), 1, (mu gX (ad gB 1))])) ∧ Below W0.heap.size W0 w' := by
  refine s_in Tryz.func14 Tryz.ntmps14 rfl [] ?_
  intro β a h
  refine sym_seq ?_
  refine St.rg h [(0, .inr (0, pt 0))] [(cis [0, 0, 0, 0], 38)] [] [eN 0] ?_ ?_
  · exact oc (k_al 0 alR rfl rfl) <|
    ok_nil
  clear h; intro β a w h
  refine sym_then ?_
  refine sym_seq ?_
  refine St.rg h [(3, .inl (.agg (ck (kl [26, 213, 37, 143, 96, 45, 86, 201, 178, 167, 37, 149, 96, 199, 44, 105, 92, 220, 214, 253, 49, 226, 164, 192, 254, 83, 110, 205, 211, 54, 105, 33])))), (4, .inl (.agg (ai 22 (dg gX)))), (1, .inr (1, pt 0))] [(ai 22 (fun _ => 0), 36)] [(1, ai 22 (dg gX))] [nn, nn, eN 1, eS 1] ?_ ?_
  · exact oc (k_bu #[(0, .int .u8 (26 : Nat)), (1, .int .u8 (213 : Nat)), (2, .int .u8 (37 : Nat)), (3, .int .u8 (143 : Nat)), (4, .int .u8 (96 : Nat)), (5, .int .u8 (45 : Nat)), (6, .int .u8 (86 : Nat)), (7, .int .u8 (201 : Nat)), (8, .int .u8 (178 : Nat)), (9, .int .u8 (167 : Nat)), (10, .int .u8 (37 : Nat)), (11, .int .u8 (149 : Nat)), (12, .int .u8 (96 : Nat)), (13, .int .u8 (199 : Nat)), (14, .int .u8 (44 : Nat)), (15, .int .u8 (105 : Nat)), (16, .int .u8 (92 : Nat)), (17, .int .u8 (220 : Nat)), (18, .int .u8 (214 : Nat)), (19, .int .u8 (253 : Nat)), (20, .int .u8 (49 : Nat)), (21, .int .u8 (226 : Nat)), (22, .int .u8 (164 : Nat)), (23, .int .u8 (192 : Nat)), (24, .int .u8 (254 : Nat)), (25, .int .u8 (83 : Nat)), (26, .int .u8 (110 : Nat)), (27, .int .u8 (205 : Nat)), (28, .int .u8 (211 : Nat)), (29, .int .u8 (54 : Nat)), (30, .int .u8 (105 : Nat)), (31, .int .u8 (33 : Nat))] (.agg (ck (kl [26, 213, 37, 143, 96, 45, 86, 201, 178, 167, 37, 149, 96, 199, 44, 105, 92, 220, 214, 253, 49, 226, 164, 192, 254, 83, 110, 205, 211, 54, 105, 33]))) (fun w => by kernel_rfl) rfl rfl) <|
    oc (k_ca 32 #[.agg (ck (kl [26, 213, 37, 143, 96, 45, 86, 201, 178, 167, 37, 149, 96, 199, 44, 105, 92, 220, 214, 253, 49, 226, 164, 192, 254, 83, 110, 205, 211, 54, 105, 33]))] (.agg (ai 22 (dg gX))) (fun w => by have := of_r (b := (kl [26, 213, 37, 143, 96, 45, 86, 201, 178, 167, 37, 149, 96, 199, 44, 105, 92, 220, 214, 253, 49, 226, 164, 192, 254, 83, 110, 205, 211, 54, 105, 33])) (kl_lt (by decide)) w; rwa [show ofb (kl [26, 213, 37, 143, 96, 45, 86, 201, 178, 167, 37, 149, 96, 199, 44, 105, 92, 220, 214, 253, 49, 226, 164, 192, 254, 83, 110, 205, 211, 54, 105, 33]) = gX by decide +kernel] at this) rfl rfl) <|
    oc (k_al 1 al22 rfl rfl) <|
    oc (k_st 1 0 (.agg (ai 22 (dg gX))) (c := ai 22 (fun _ => 0)) (n := ai 22 (dg gX)) (st22 (F := (dg gX)) (c := ai 22 (fun _ => 0)) 36 (ai_size _ _)) rfl rfl) <|
    ok_nil
  clear h; intro β a w h
  refine sym_then ?_
  refine sym_seq ?_
  refine St.rg h [(5, .inl (.agg (ck (kl [88, 102, 102, 102, 102, 102, 102, 102, 102, 102, 102, 102, 102, 102, 102, 102, 102, 102, 102, 102, 102, 102, 102, 102, 102, 102, 102, 102, 102, 102, 102, 102])))), (6, .inl (.agg (ai 22 (dg (ad gB 1))))), (2, .inr (2, pt 0))] [(ai 22 (fun _ => 0), 36)] [(2, ai 22 (dg (ad gB 1)))] [nn, nn, eN 2, eS 2] ?_ ?_
  · exact oc (k_bu #[(0, .int .u8 (88 : Nat)), (1, .int .u8 (102 : Nat)), (2, .int .u8 (102 : Nat)), (3, .int .u8 (102 : Nat)), (4, .int .u8 (102 : Nat)), (5, .int .u8 (102 : Nat)), (6, .int .u8 (102 : Nat)), (7, .int .u8 (102 : Nat)), (8, .int .u8 (102 : Nat)), (9, .int .u8 (102 : Nat)), (10, .int .u8 (102 : Nat)), (11, .int .u8 (102 : Nat)), (12, .int .u8 (102 : Nat)), (13, .int .u8 (102 : Nat)), (14, .int .u8 (102 : Nat)), (15, .int .u8 (102 : Nat)), (16, .int .u8 (102 : Nat)), (17, .int .u8 (102 : Nat)), (18, .int .u8 (102 : Nat)), (19, .int .u8 (102 : Nat)), (20, .int .u8 (102 : Nat)), (21, .int .u8 (102 : Nat)), (22, .int .u8 (102 : Nat)), (23, .int .u8 (102 : Nat)), (24, .int .u8 (102 : Nat)), (25, .int .u8 (102 : Nat)), (26, .int .u8 (102 : Nat)), (27, .int .u8 (102 : Nat)), (28, .int .u8 (102 : Nat)), (29, .int .u8 (102 : Nat)), (30, .int .u8 (102 : Nat)), (31, .int .u8 (102 : Nat))] (.agg (ck (kl [88, 102, 102, 102, 102, 102, 102, 102, 102, 102, 102, 102, 102, 102, 102, 102, 102, 102, 102, 102, 102, 102, 102, 102, 102, 102, 102, 102, 102, 102, 102, 102]))) (fun w => by kernel_rfl) rfl rfl) <|
    oc (k_ca 32 #[.agg (ck (kl [88, 102, 102, 102, 102, 102, 102, 102, 102, 102, 102, 102, 102, 102, 102, 102, 102, 102, 102, 102, 102, 102, 102, 102, 102, 102, 102, 102, 102, 102, 102, 102]))] (.agg (ai 22 (dg (ad gB 1)))) (fun w => by have := of_r (b := (kl [88, 102, 102, 102, 102, 102, 102, 102, 102, 102, 102, 102, 102, 102, 102, 102, 102, 102, 102, 102, 102, 102, 102, 102, 102, 102, 102, 102, 102, 102, 102, 102])) (kl_lt (by decide)) w; rwa [show ofb (kl [88, 102, 102, 102, 102, 102, 102, 102, 102, 102, 102, 102, 102, 102, 102, 102, 102, 102, 102, 102, 102, 102, 102, 102, 102, 102, 102, 102, 102, 102, 102, 102]) = (ad gB 1) by decide +kernel] at this) rfl rfl) <|
    oc (k_al 2 al22 rfl rfl) <|
    oc (k_st 2 0 (.agg (ai 22 (dg (ad gB 1)))) (c := ai 22 (fun _ => 0)) (n := ai 22 (dg (ad gB 1))) (st22 (F := (dg (ad gB 1))) (c := ai 22 (fun _ => 0)) 36 (ai_size _ _)) rfl rfl) <|
    ok_nil
  clear h; intro β a w h
  refine sym_then ?_
  refine sym_seq ?_
  refine St.rg h [(7, .inl (.agg (ai 22 (dg gX)))), (8, .inl (.agg (ai 22 (dg (ad gB 1))))), (9, .inl (.agg (ai 22 (dg 1)))), (10, .inl (.agg (ai 22 (dg gX)))), (11, .inl (.agg (ai 22 (dg (ad gB 1))))), (12, .inl (.agg (ai 22 (dg (mu gX (ad gB 1)))))), (13, .inl (.agg (cis [gX, (ad gB 1), 1, (mu gX (ad gB 1))])))] [] [(0, cis [gX, (ad gB 1), 1, (mu gX (ad gB 1))])] [eR 1, eR 2, nn, eR 1, eR 2, nn, nn, eS 0] ?_ ?_
  · exact oc (k_ld 1 0 (.agg (ai 22 (dg gX))) (c := ai 22 (dg gX)) (ld22 (F := (dg gX)) 36) rfl rfl) <|
    oc (k_ld 2 0 (.agg (ai 22 (dg (ad gB 1)))) (c := ai 22 (dg (ad gB 1))) (ld22 (F := (dg (ad gB 1))) 36) rfl rfl) <|
    oc (k_ca 33 #[.int .i64 (1 : Nat)] (.agg (ai 22 (dg 1))) (fun w => int_r (N := 1) (by decide) w) rfl rfl) <|
    oc (k_ld 1 0 (.agg (ai 22 (dg gX))) (c := ai 22 (dg gX)) (ld22 (F := (dg gX)) 36) rfl rfl) <|
    oc (k_ld 2 0 (.agg (ai 22 (dg (ad gB 1)))) (c := ai 22 (dg (ad gB 1))) (ld22 (F := (dg (ad gB 1))) 36) rfl rfl) <|
    oc (k_ca 34 #[.agg (ai 22 (dg gX)), .agg (ai 22 (dg (ad gB 1)))] (.agg (ai 22 (dg (mu gX (ad gB 1))))) (fun w => times_rm gX_lt (ad_lt _ _) w) rfl rfl) <|
    oc (k_bu #[(0, .agg (ai 22 (dg gX))), (1, .agg (ai 22 (dg (ad gB 1)))), (2, .agg (ai 22 (dg 1))), (3, .agg (ai 22 (dg (mu gX (ad gB 1)))))] (.agg (cis [gX, (ad gB 1), 1, (mu gX (ad gB 1))])) (bdR (a := gX) (b := (ad gB 1)) (c := 1) (d := (mu gX (ad gB 1)))) rfl rfl) <|
    oc (k_st 0 0 (.agg (cis [gX, (ad gB 1), 1, (mu gX (ad gB 1))])) (c := cis [0, 0, 0, 0]) (n := cis [gX, (ad gB 1), 1, (mu gX (ad gB 1))]) (stR (a := gX) (b := (ad gB 1)) (c := 1) (d := (mu gX (ad gB 1))) (e := cis [0, 0, 0, 0]) 38 (by rw [cis_size]; rfl)) rfl rfl) <|
    ok_nil
  clear h; intro β a w h
  refine sym_then ?_
  refine wp_ret ?_
  exact s_rc (b := 0) (t0 := 38) (c := cis [gX, (ad gB 1), 1, (mu gX (ad gB 1))]) h Tryz.results14 Tryz.underlying38 (fun hb => ⟨rfl, hb⟩) (by rw [cis_size]; kernel_rfl)
theorem rgen_v (W0 : World) : Calls Tryz.prog 14 #[] W0 fun e w' => e = .returned (.agg (vR rG)) ∧ Below W0.heap.size W0 w' := rgen_r W0
set_option maxHeartbeats 4000000 in
theorem rpub_r {f S Q R : Nat → Nat} {u : Nat × Nat × Nat × Nat} (W0 : World) (cS : ∀ w, Below W0.heap.size W0 w → Calls Tryz.prog 11 #[.agg (ck f)] w fun e w' => e = .returned (.tuple #[.agg (ck S), .agg (ck Q)]) ∧ Below w.heap.size w w')
    (cM : ∀ w, Calls Tryz.prog 13 #[.agg (vR rG), .agg (ck S)] w fun e w' => e = .returned (.agg (vR u)) ∧ Below w.heap.size w w') (cK : ∀ w, Calls Tryz.prog 12 #[.agg (vR u)] w fun e w' => e = .returned (.agg (ck R)) ∧ Below w.heap.size w w') : Calls Tryz.prog 6 #[.agg (ck f)] W0 fun e w' => e = .returned (.agg (ck R)) ∧ Below W0.heap.size W0 w' := by
  refine s_in Tryz.func6 Tryz.ntmps6 rfl [.inl (.agg (ck f))] ?_
  intro β a h
  refine sym_seq ?_
  refine St.rg h [(1, .inr (0, pt 0)), (2, .inr (1, pt 0))] [(ck f, 23), (ck (fun _ => 0), 23)] [] [eN 0, eN 1] ?_ ?_
  · exact oc (k_bx 0 (.agg (ck f)) (bxK (b := f)) rfl rfl) <|
    oc (k_al 1 alK rfl rfl) <|
    ok_nil
  clear h; intro β a w h
  refine sym_then ?_
  refine sym_seq ?_
  refine St.rg h [(6, .inl (.agg (ck f))), (7, .inl (.tuple #[.agg (ck S), .agg (ck Q)])), (5, .inl (.tuple #[.agg (ck S), .agg (ck Q)])), (8, .inl (.agg (ck S))), (9, .inl (.agg (ck Q))), (3, .inr (2, pt 0)), (4, .inr (3, pt 0))] [(ck (fun _ => 0), 23), (ck (fun _ => 0), 23)] [(2, ck S), (3, ck Q)] [eR 0, nn, nn, nn, nn, eN 2, eN 3, eS 2, eS 3] ?_ ?_
  · exact oc (k_ld 0 0 (.agg (ck f)) (c := ck f) (ldK (b := f) 23) rfl rfl) <|
    oc (k_cw 11 #[.agg (ck f)] (.tuple #[.agg (ck S), .agg (ck Q)]) (fun w hk => cS w (KW.below hk)) rfl rfl) <|
    oc (k_mv (.inl rfl) rfl) <|
    oc (k_ex (.tuple #[.agg (ck S), .agg (ck Q)]) (.agg (ck S)) rfl rfl) <|
    oc (k_ex (.tuple #[.agg (ck S), .agg (ck Q)]) (.agg (ck Q)) rfl rfl) <|
    oc (k_al 2 alK rfl rfl) <|
    oc (k_al 3 alK rfl rfl) <|
    oc (k_st 2 0 (.agg (ck S)) (c := ck (fun _ => 0)) (n := ck S) (stK (F := S) (c := ck (fun _ => 0)) 23 (ck_size _)) rfl rfl) <|
    oc (k_st 3 0 (.agg (ck Q)) (c := ck (fun _ => 0)) (n := ck Q) (stK (F := Q) (c := ck (fun _ => 0)) 23 (ck_size _)) rfl rfl) <|
    ok_nil
  clear h; intro β a w h
  refine sym_then ?_
  refine sym_seq ?_
  refine St.rg h [(10, .inl (.agg (vR rG))), (11, .inl (.agg (ck S))), (12, .inl (.agg (vR u))), (13, .inl (.agg (ck R)))] [] [(1, ck R)] [nn, eR 2, nn, nn, eS 1] ?_ ?_
  · exact oc (k_ca 14 #[] (.agg (vR rG)) rgen_v rfl rfl) <|
    oc (k_ld 2 0 (.agg (ck S)) (c := ck S) (ldK (b := S) 23) rfl rfl) <|
    oc (k_ca 13 #[.agg (vR rG), .agg (ck S)] (.agg (vR u)) cM rfl rfl) <|
    oc (k_ca 12 #[.agg (vR u)] (.agg (ck R)) cK rfl rfl) <|
    oc (k_st 1 0 (.agg (ck R)) (c := ck (fun _ => 0)) (n := ck R) (stK (F := R) (c := ck (fun _ => 0)) 23 (ck_size _)) rfl rfl) <|
    ok_nil
  clear h; intro β a w h
  refine sym_then ?_
  refine wp_ret ?_
  exact s_rc (b := 1) (t0 := 23) (c := ck R) h Tryz.results6 Tryz.underlying23 (fun hb => ⟨rfl, hb⟩) (by rw [ck_size]; kernel_rfl)
theorem g_inv {R : Type} [Lean.Grind.CommRing R] (x z i : R) (h : z * i = 1) : x * z * i = x := by grind
theorem aff_pj {v : Nat × Nat × Nat × Nat} {p : Fp × Fp} (g : Gd v) (h : Pj v p) : mu v.1 (inv v.2.2.1) = p.1.val ∧ mu v.2.1 (inv v.2.2.1) = p.2.val := by
  obtain ⟨nz, e1, e2, -⟩ := h
  have hi : cf v.2.2.1 * cf (inv v.2.2.1) = 1 := by
    have := fi_mul nz
    unfold fi at this
    rwa [cf_sv g.2.2.1] at this
  constructor
  · refine cf_inj (mu_lt _ _) p.1.isLt ?_
    rw [cf_mu, e1, cf_val]; exact g_inv _ _ _ hi
  · refine cf_inj (mu_lt _ _) p.2.isLt ?_
    rw [cf_mu, e2, cf_val]; exact g_inv _ _ _ hi
theorem oR_pj : Pj oR pO := by
  unfold Pj oR pO
  have h0 : cf 0 = 0 := rfl
  simp only [cf_one, h0]
  exact ⟨fin_10, by grind, by grind, by grind⟩
theorem one_pj {x y : Nat} : Pj (x, y, 1, mu x y) (cf x, cf y) := by
  unfold Pj
  simp only [cf_mu, cf_one]
  exact ⟨fin_10, by grind, by grind, by grind⟩
theorem rmany_pv {f : Nat → Nat} (hf : ∀ i, f i < 256) {v : Nat × Nat × Nat × Nat} {p : Fp × Fp} (hp : OC p) (gv : Gd v) (hv : Pj v p) : ∃ u, Gd u ∧ Pj u (mt (nbv f 32) p) ∧ (∀ w, Calls Tryz.prog 13 #[.agg (vR v), .agg (ck f)] w fun e w' => e = .returned (.agg (vR u)) ∧ Below w.heap.size w w') := by
  have hr := fldM_rel (add := sumR) (no := oR) (one := v) hp (Rl := fun v q => Gd v ∧ Pj v q) (fun u v q r hq hr h1 h2 => ⟨sumR_gd _ _, sumR_pj hq hr h1.2 h2.2⟩) ⟨oR_gd, oR_pj⟩ ⟨gv, hv⟩ (tops f (8 * 32) (8 * 32))
  rw [tops_all hf] at hr
  exact ⟨_, hr.1, hr.2, fun w => rmany_r hf gv w⟩
theorem rkey_pv {v : Nat × Nat × Nat × Nat} {p : Fp × Fp} (gv : Gd v) (hv : Pj v p) (w : World) : Calls Tryz.prog 12 #[.agg (vR v)] w fun e w' => e = .returned (.agg (ck (kp p))) ∧ Below w.heap.size w w' := by
  have h := rk (t1 := v.2.2.2) gv.1 gv.2.1 gv.2.2.1 w
  rw [(aff_pj gv hv).1, (aff_pj gv hv).2] at h
  exact h
theorem rpub_d {f : Nat → Nat} (hf : ∀ i, f i < 256) (W0 : World) : Calls Tryz.prog 6 #[.agg (ck f)] W0 fun e w' => e = .returned (.agg (ck (kp (mt (nbv (clmp (lg 32 f)) 32) gG)))) ∧ Below W0.heap.size W0 w' := by
  obtain ⟨u, gu, ju, cR⟩ := rmany_pv (clmp_lt (lg_lt 32 f)) gG_oc (v := rG) ⟨gX_lt, ad_lt _ _, one_ltp, mu_lt _ _⟩ one_pj
  exact rpub_r W0 (fun w _ => rsec_d hf w) cR (fun w => rkey_pv gu ju w)
end Go.Proofs.YtacokkedomjgpaaGreatDoor

namespace Go.Proofs.YtacokkedomjgpaaGreatDoor
open Go.RowKit
theorem ldWd {F : Nat → Nat} (t0 : TypeId) (w : World) (q : Nat) (h : w.heap[q]? = some (.cells (cw F) t0 (0, 0))) : (Instr.loadAt 29 (.pointer (some ⟨q, 0, none⟩))).run Tryz.prog w = .ok (.agg (cw F)) w :=
  ld_row (c := cw F) Tryz.underlying29 rfl (cw_sz F) w q h
theorem stWd {F : Nat → Nat} {c : Array Value} (t0 : TypeId) (hc : c.size = 64) (w : World) (q : Nat) (h : w.heap[q]? = some (.cells c t0 (0, 0))) : (Instr.storeAt 29 (.pointer (some ⟨q, 0, none⟩)) (.agg (cw F))).run Tryz.prog w = .ok () (w.setRow q (cw F)) :=
  st_row (n := cw F) (cw_sz F) (by rw [hc]; exact (ab_size _ _).symm) (ab_one _ _) w q h
theorem cw_zero : cw (fun _ => 0) = Array.replicate 64 (.int .u8 0) := by unfold cw ab arr; kernel_rfl
theorem alWd (w : World) : (Instr.alloc 29 true (.tuple #[])).run Tryz.prog w = .ok (.pointer (some ⟨w.heap.size, 0, none⟩)) (w.alloc (.cells (cw fun _ => 0) 29)) := by
  rw [cw_zero]; kernel_rfl
set_option maxHeartbeats 4000000 in
theorem public_q {f S T : Nat → Nat} (hS : ∀ i, S i < 256) (W0 : World) (cO0 : ∀ w, Below W0.heap.size W0 w → Calls Tryz.prog 9 #[.agg (ck f)] w fun e w' => e = .returned (.tuple #[.agg (ck S), .agg (ck T)]) ∧ Below w.heap.size w w') : Calls Tryz.prog 5 #[.agg (ck f)] W0 fun e w' => e = .returned (.agg (ck (kp (mt (nbv S 32) gG)))) ∧ Below W0.heap.size W0 w' := by
  refine s_in Tryz.func5 Tryz.ntmps5 rfl [.inl (.agg (ck f))] ?_
  intro β a h
  refine sym_seq ?_
  refine St.rg h [(1, .inr (0, pt 0)), (2, .inr (1, pt 0))] [(ck f, 23), (ck (fun _ => 0), 23)] [] [eN 0, eN 1] ?_ ?_
  · exact oc (k_bx 0 (.agg (ck f)) (bxK (b := f)) rfl rfl) <|
    oc (k_al 1 alK rfl rfl) <|
    ok_nil
  clear h; intro β a w h
  refine sym_then ?_
  refine sym_seq ?_
  refine St.rg h [(6, .inl (.agg (ck f))), (7, .inl (.tuple #[.agg (ck S), .agg (ck T)])), (5, .inl (.tuple #[.agg (ck S), .agg (ck T)])), (8, .inl (.agg (ck S))), (9, .inl (.agg (ck T))), (3, .inr (2, pt 0)), (4, .inr (3, pt 0))] [(ck (fun _ => 0), 23), (ck (fun _ => 0), 23)] [(2, ck S), (3, ck T)] [eR 0, nn, nn, nn, nn, eN 2, eN 3, eS 2, eS 3] ?_ ?_
  · exact oc (k_ld 0 0 (.agg (ck f)) (c := ck f) (ldK (b := f) 23) rfl rfl) <|
    oc (k_cw 9 #[.agg (ck f)] (.tuple #[.agg (ck S), .agg (ck T)]) (fun w hw => cO0 w (KW.below hw)) rfl rfl) <|
    oc (k_mv (.inl rfl) rfl) <|
    oc (k_ex (.tuple #[.agg (ck S), .agg (ck T)]) (.agg (ck S)) rfl rfl) <|
    oc (k_ex (.tuple #[.agg (ck S), .agg (ck T)]) (.agg (ck T)) rfl rfl) <|
    oc (k_al 2 alK rfl rfl) <|
    oc (k_al 3 alK rfl rfl) <|
    oc (k_st 2 0 (.agg (ck S)) (c := ck (fun _ => 0)) (n := ck S) (stK (F := S) (c := ck (fun _ => 0)) 23 (ck_size _)) rfl rfl) <|
    oc (k_st 3 0 (.agg (ck T)) (c := ck (fun _ => 0)) (n := ck T) (stK (F := T) (c := ck (fun _ => 0)) 23 (ck_size _)) rfl rfl) <|
    ok_nil
  clear h; intro β a w h
  refine sym_then ?_
  refine sym_seq ?_
  refine St.rg h [(10, .inl (.agg (ck S))), (11, .inl (.agg (ck (kp (mt (nbv S 32) gG)))))] [] [(1, ck (kp (mt (nbv S 32) gG)))] [eR 2, nn, eS 1] ?_ ?_
  · exact oc (k_ld 2 0 (.agg (ck S)) (c := ck S) (ldK (b := S) 23) rfl rfl) <|
    oc (k_ca 10 #[.agg (ck S)] (.agg (ck (kp (mt (nbv S 32) gG)))) (fun w => generator_d hS w) rfl rfl) <|
    oc (k_st 1 0 (.agg (ck (kp (mt (nbv S 32) gG)))) (c := ck (fun _ => 0)) (n := ck (kp (mt (nbv S 32) gG))) (stK (F := (kp (mt (nbv S 32) gG))) (c := ck (fun _ => 0)) 23 (ck_size _)) rfl rfl) <|
    ok_nil
  clear h; intro β a w h
  refine sym_then ?_
  refine wp_ret ?_
  exact s_rc (b := 1) (t0 := 23) (c := ck (kp (mt (nbv S 32) gG))) h Tryz.results5 Tryz.underlying23 (fun hb => ⟨rfl, hb⟩) (by rw [ck_size]; kernel_rfl)
set_option maxHeartbeats 4000000 in
set_option maxRecDepth 100000 in
theorem sign_q {f S T : Nat → Nat} {R1 R2 ln pc : Nat} {pa : Option Addr} (hS : ∀ i, S i < 256) (W0 : World) (cO0 : ∀ w, Below W0.heap.size W0 w → Calls Tryz.prog 9 #[.agg (ck f)] w fun e w' => e = .returned (.tuple #[.agg (ck S), .agg (ck T)]) ∧ Below w.heap.size w w')
    (cR1 : ∀ (w : World) (g q : Nat), Below W0.heap.size W0 w → w.heap[g]? = some (.cells (ck T) 23 (0, 0)) → w.heap[q]? = some (.cells #[.slice (some ⟨g, 0, none⟩) 32 32] 31 (0, 0)) → Calls Tryz.prog 18 #[.slice pa ln pc, .slice (some ⟨q, 0, none⟩) 1 1] w fun e w' => e = .returned (.agg (ck (kq R1))) ∧ Below w.heap.size w w')
    (cR2 : ∀ (w : World) (g g' q : Nat), Below W0.heap.size W0 w → w.heap[g]? = some (.cells (ck (kp (mt (nbv (kq R1) 32) gG))) 23 (0, 0)) → w.heap[g']? = some (.cells (ck (kp (mt (nbv S 32) gG))) 23 (0, 0)) → w.heap[q]? = some (.cells #[.slice (some ⟨g, 0, none⟩) 32 32, .slice (some ⟨g', 0, none⟩) 32 32] 31 (0, 0)) → Calls Tryz.prog 18 #[.slice pa ln pc, .slice (some ⟨q, 0, none⟩) 2 2] w fun e w' => e = .returned (.agg (ck (kq R2))) ∧ Below w.heap.size w w') :
    Calls Tryz.prog 8 #[.agg (ck f), .slice pa ln pc] W0 fun e w' => e = .returned (.agg (cw (jn (kp (mt (nbv (kq R1) 32) gG)) (kq ((nB (kq R2) 32 * nB S 32 + nB (kq R1) 32) % oL))))) ∧ Below W0.heap.size W0 w' := by
  refine s_in Tryz.func8 Tryz.ntmps8 rfl [.inl (.agg (ck f)), .inl (.slice pa ln pc)] ?_
  intro β a h
  refine sym_seq ?_
  refine St.rg h [(2, .inr (0, pt 0)), (4, .inr (1, pt 0))] [(ck f, 23), (cw (fun _ => 0), 29)] [] [eN 0, eN 1] ?_ ?_
  · exact oc (k_bx 0 (.agg (ck f)) (bxK (b := f)) rfl rfl) <|
    oc (k_al 1 alWd rfl rfl) <|
    ok_nil
  clear h; intro β a w h
  refine sym_then ?_
  refine sym_seq ?_
  refine St.rg h [(12, .inl (.agg (ck f))), (13, .inl (.tuple #[.agg (ck S), .agg (ck T)])), (11, .inl (.tuple #[.agg (ck S), .agg (ck T)])), (14, .inl (.agg (ck S))), (15, .inl (.agg (ck T))), (5, .inr (2, pt 0)), (6, .inr (3, pt 0))] [(ck (fun _ => 0), 23), (ck (fun _ => 0), 23)] [(2, ck S), (3, ck T)] [eR 0, nn, nn, nn, nn, eN 2, eN 3, eS 2, eS 3] ?_ ?_
  · exact oc (k_ld 0 0 (.agg (ck f)) (c := ck f) (ldK (b := f) 23) rfl rfl) <|
    oc (k_cw 9 #[.agg (ck f)] (.tuple #[.agg (ck S), .agg (ck T)]) (fun w hw => cO0 w (KW.below hw)) rfl rfl) <|
    oc (k_mv (.inl rfl) rfl) <|
    oc (k_ex (.tuple #[.agg (ck S), .agg (ck T)]) (.agg (ck S)) rfl rfl) <|
    oc (k_ex (.tuple #[.agg (ck S), .agg (ck T)]) (.agg (ck T)) rfl rfl) <|
    oc (k_al 2 alK rfl rfl) <|
    oc (k_al 3 alK rfl rfl) <|
    oc (k_st 2 0 (.agg (ck S)) (c := ck (fun _ => 0)) (n := ck S) (stK (F := S) (c := ck (fun _ => 0)) 23 (ck_size _)) rfl rfl) <|
    oc (k_st 3 0 (.agg (ck T)) (c := ck (fun _ => 0)) (n := ck T) (stK (F := T) (c := ck (fun _ => 0)) 23 (ck_size _)) rfl rfl) <|
    ok_nil
  clear h; intro β a w h
  refine sym_then ?_
  refine sym_seq ?_
  refine St.rg h [(16, .inl (.agg (ck S))), (17, .inl (.agg (ck (kp (mt (nbv S 32) gG))))), (7, .inr (4, pt 0))] [(ck (fun _ => 0), 23)] [(4, ck (kp (mt (nbv S 32) gG)))] [eR 2, nn, eN 4, eS 4] ?_ ?_
  · exact oc (k_ld 2 0 (.agg (ck S)) (c := ck S) (ldK (b := S) 23) rfl rfl) <|
    oc (k_ca 10 #[.agg (ck S)] (.agg (ck (kp (mt (nbv S 32) gG)))) (fun w => generator_d hS w) rfl rfl) <|
    oc (k_al 4 alK rfl rfl) <|
    oc (k_st 4 0 (.agg (ck (kp (mt (nbv S 32) gG)))) (c := ck (fun _ => 0)) (n := ck (kp (mt (nbv S 32) gG))) (stK (F := (kp (mt (nbv S 32) gG))) (c := ck (fun _ => 0)) 23 (ck_size _)) rfl rfl) <|
    ok_nil
  clear h; intro β a w h
  refine sym_then ?_
  refine sym_seq ?_
  replace h := St.cs h (s' := [.inl (.agg (ck f)), .inl (.slice pa ln pc), .inr (0, pt 0), uu, .inr (1, pt 0), .inr (2, pt 0), .inr (3, pt 0), .inr (4, pt 0), uu, uu, uu, .inl (.tuple #[.agg (ck S), .agg (ck T)]), .inl (.agg (ck f)), .inl (.tuple #[.agg (ck S), .agg (ck T)]), .inl (.agg (ck S)), .inl (.agg (ck T)), .inl (.agg (ck S)), .inl (.agg (ck (kp (mt (nbv S 32) gG)))), uu, uu, uu, uu, uu, uu, uu, uu, uu, uu, uu, uu, uu, uu, uu, uu, uu]) (m' := [(ck f, 23), (cw (fun _ => 0), 29), (ck S, 23), (ck T, 23), (ck (kp (mt (nbv S 32) gG)), 23)]) (by kernel_rfl) (by kernel_rfl)
  obtain ⟨W1f, q1f, βf, hk1f, hr1f, h⟩ := St.fixed h 3 (c := ck T) (t := 23)
  replace h := St.cs h (s' := [.inl (.agg (ck f)), .inl (.slice pa ln pc), .inr (0, pt 0), uu, .inr (1, pt 0), .inr (2, pt 0), .inl (.pointer (some ⟨q1f, 0, none⟩)), .inr (3, pt 0), uu, uu, uu, .inl (.tuple #[.agg (ck S), .agg (ck T)]), .inl (.agg (ck f)), .inl (.tuple #[.agg (ck S), .agg (ck T)]), .inl (.agg (ck S)), .inl (.agg (ck T)), .inl (.agg (ck S)), .inl (.agg (ck (kp (mt (nbv S 32) gG)))), uu, uu, uu, uu, uu, uu, uu, uu, uu, uu, uu, uu, uu, uu, uu, uu, uu]) (m' := [(ck f, 23), (cw (fun _ => 0), 29), (ck S, 23), (ck (kp (mt (nbv S 32) gG)), 23)]) (by kernel_rfl) (by kernel_rfl)
  replace h := h.o0
  refine St.rg h [(18, .inl (.slice pa ln pc)), (19, .inl (.slice (some ⟨q1f, 0, none⟩) 32 32)), (20, .inr (4, sl 0 1 1)), (21, .inl (.agg (ck (kq R1)))), (8, .inr (5, pt 0))] [(#[.slice (some ⟨q1f, 0, none⟩) 32 32], 31), (ck (fun _ => 0), 23)] [(5, ck (kq R1))] [nn, nn, eN 4, eR 4, eN 5, eS 5] ?_ ?_
  · exact oc (k_mv (.inl rfl) rfl) <|
    oc (k_sp (.pointer (some ⟨q1f, 0, none⟩)) (.slice (some ⟨q1f, 0, none⟩) 32 32) none none rfl rfl (fun w => sl_key w q1f)) <|
    oc (k_bs #[(0, .slice (some ⟨q1f, 0, none⟩) 32 32)] 4 (c := #[.slice (some ⟨q1f, 0, none⟩) 32 32]) (t0 := 31) (fun w => by kernel_rfl) rfl rfl) <|
    oc (k_cb 18 (fun q => #[.slice pa ln pc, .slice (some ⟨q, 0, none⟩) 1 1]) (.agg (ck (kq R1))) 4 20 (fun w q hk hq => cR1 w q1f q (KW.below (hk1f _ hk)) (hr1f _ hk) hq) rfl rfl (by simp) (fm := sl 0 1 1)) <|
    oc (k_al 5 alK rfl rfl) <|
    oc (k_st 5 0 (.agg (ck (kq R1))) (c := ck (fun _ => 0)) (n := ck (kq R1)) (stK (F := (kq R1)) (c := ck (fun _ => 0)) 23 (ck_size _)) rfl rfl) <|
    ok_nil
  clear h; intro β a w h
  refine sym_then ?_
  refine sym_seq ?_
  refine St.rg h [(22, .inl (.agg (ck (kq R1)))), (23, .inl (.agg (ck (kp (mt (nbv (kq R1) 32) gG))))), (9, .inr (6, pt 0))] [(ck (fun _ => 0), 23)] [(6, ck (kp (mt (nbv (kq R1) 32) gG)))] [eR 5, nn, eN 6, eS 6] ?_ ?_
  · exact oc (k_ld 5 0 (.agg (ck (kq R1))) (c := ck (kq R1)) (ldK (b := (kq R1)) 23) rfl rfl) <|
    oc (k_ca 10 #[.agg (ck (kq R1))] (.agg (ck (kp (mt (nbv (kq R1) 32) gG)))) (fun w => generator_d (kq_lt _) w) rfl rfl) <|
    oc (k_al 6 alK rfl rfl) <|
    oc (k_st 6 0 (.agg (ck (kp (mt (nbv (kq R1) 32) gG)))) (c := ck (fun _ => 0)) (n := ck (kp (mt (nbv (kq R1) 32) gG))) (stK (F := (kp (mt (nbv (kq R1) 32) gG))) (c := ck (fun _ => 0)) 23 (ck_size _)) rfl rfl) <|
    ok_nil
  clear h; intro β a w h
  refine sym_then ?_
  refine sym_seq ?_
  replace h := St.cs h (s' := [.inl (.agg (ck f)), .inl (.slice pa ln pc), .inr (0, pt 0), uu, .inr (1, pt 0), .inr (2, pt 0), .inl (.pointer (some ⟨q1f, 0, none⟩)), .inr (3, pt 0), .inr (5, pt 0), .inr (6, pt 0), uu, .inl (.tuple #[.agg (ck S), .agg (ck T)]), .inl (.agg (ck f)), .inl (.tuple #[.agg (ck S), .agg (ck T)]), .inl (.agg (ck S)), .inl (.agg (ck T)), .inl (.agg (ck S)), .inl (.agg (ck (kp (mt (nbv S 32) gG)))), .inl (.slice pa ln pc), .inl (.slice (some ⟨q1f, 0, none⟩) 32 32), .inr (4, sl 0 1 1), .inl (.agg (ck (kq R1))), .inl (.agg (ck (kq R1))), .inl (.agg (ck (kp (mt (nbv (kq R1) 32) gG)))), uu, uu, uu, uu, uu, uu, uu, uu, uu, uu, uu]) (m' := [(ck f, 23), (cw (fun _ => 0), 29), (ck S, 23), (ck (kp (mt (nbv S 32) gG)), 23), (#[.slice (some ⟨q1f, 0, none⟩) 32 32], 31), (ck (kq R1), 23), (ck (kp (mt (nbv (kq R1) 32) gG)), 23)]) (by kernel_rfl) (by kernel_rfl)
  obtain ⟨W2f, q2f, βf, hk2f, hr2f, h⟩ := St.fixed h 6 (c := ck (kp (mt (nbv (kq R1) 32) gG))) (t := 23)
  replace h := St.cs h (s' := [.inl (.agg (ck f)), .inl (.slice pa ln pc), .inr (0, pt 0), uu, .inr (1, pt 0), .inr (2, pt 0), .inl (.pointer (some ⟨q1f, 0, none⟩)), .inr (3, pt 0), .inr (5, pt 0), .inl (.pointer (some ⟨q2f, 0, none⟩)), uu, .inl (.tuple #[.agg (ck S), .agg (ck T)]), .inl (.agg (ck f)), .inl (.tuple #[.agg (ck S), .agg (ck T)]), .inl (.agg (ck S)), .inl (.agg (ck T)), .inl (.agg (ck S)), .inl (.agg (ck (kp (mt (nbv S 32) gG)))), .inl (.slice pa ln pc), .inl (.slice (some ⟨q1f, 0, none⟩) 32 32), .inr (4, sl 0 1 1), .inl (.agg (ck (kq R1))), .inl (.agg (ck (kq R1))), .inl (.agg (ck (kp (mt (nbv (kq R1) 32) gG)))), uu, uu, uu, uu, uu, uu, uu, uu, uu, uu, uu]) (m' := [(ck f, 23), (cw (fun _ => 0), 29), (ck S, 23), (ck (kp (mt (nbv S 32) gG)), 23), (#[.slice (some ⟨q1f, 0, none⟩) 32 32], 31), (ck (kq R1), 23)]) (by kernel_rfl) (by kernel_rfl)
  replace h := h.o0
  replace h := St.cs h (s' := [.inl (.agg (ck f)), .inl (.slice pa ln pc), .inr (0, pt 0), uu, .inr (1, pt 0), .inr (2, pt 0), .inl (.pointer (some ⟨q1f, 0, none⟩)), .inr (3, pt 0), .inr (5, pt 0), .inl (.pointer (some ⟨q2f, 0, none⟩)), uu, .inl (.tuple #[.agg (ck S), .agg (ck T)]), .inl (.agg (ck f)), .inl (.tuple #[.agg (ck S), .agg (ck T)]), .inl (.agg (ck S)), .inl (.agg (ck T)), .inl (.agg (ck S)), .inl (.agg (ck (kp (mt (nbv S 32) gG)))), .inl (.slice pa ln pc), .inl (.slice (some ⟨q1f, 0, none⟩) 32 32), .inr (4, sl 0 1 1), .inl (.agg (ck (kq R1))), .inl (.agg (ck (kq R1))), .inl (.agg (ck (kp (mt (nbv (kq R1) 32) gG)))), uu, uu, uu, uu, uu, uu, uu, uu, uu, uu, uu]) (m' := [(ck f, 23), (cw (fun _ => 0), 29), (ck S, 23), (ck (kp (mt (nbv S 32) gG)), 23), (#[.slice (some ⟨q1f, 0, none⟩) 32 32], 31), (ck (kq R1), 23)]) (by kernel_rfl) (by kernel_rfl)
  obtain ⟨W3f, q3f, βf, hk3f, hr3f, h⟩ := St.fixed h 3 (c := ck (kp (mt (nbv S 32) gG))) (t := 23)
  replace h := St.cs h (s' := [.inl (.agg (ck f)), .inl (.slice pa ln pc), .inr (0, pt 0), uu, .inr (1, pt 0), .inr (2, pt 0), .inl (.pointer (some ⟨q1f, 0, none⟩)), .inl (.pointer (some ⟨q3f, 0, none⟩)), .inr (4, pt 0), .inl (.pointer (some ⟨q2f, 0, none⟩)), uu, .inl (.tuple #[.agg (ck S), .agg (ck T)]), .inl (.agg (ck f)), .inl (.tuple #[.agg (ck S), .agg (ck T)]), .inl (.agg (ck S)), .inl (.agg (ck T)), .inl (.agg (ck S)), .inl (.agg (ck (kp (mt (nbv S 32) gG)))), .inl (.slice pa ln pc), .inl (.slice (some ⟨q1f, 0, none⟩) 32 32), .inr (3, sl 0 1 1), .inl (.agg (ck (kq R1))), .inl (.agg (ck (kq R1))), .inl (.agg (ck (kp (mt (nbv (kq R1) 32) gG)))), uu, uu, uu, uu, uu, uu, uu, uu, uu, uu, uu]) (m' := [(ck f, 23), (cw (fun _ => 0), 29), (ck S, 23), (#[.slice (some ⟨q1f, 0, none⟩) 32 32], 31), (ck (kq R1), 23)]) (by kernel_rfl) (by kernel_rfl)
  replace h := h.o0
  refine St.rg h [(24, .inl (.slice pa ln pc)), (25, .inl (.slice (some ⟨q2f, 0, none⟩) 32 32)), (26, .inl (.slice (some ⟨q3f, 0, none⟩) 32 32)), (27, .inr (5, sl 0 2 2)), (28, .inl (.agg (ck (kq R2)))), (10, .inr (6, pt 0))] [(#[.slice (some ⟨q2f, 0, none⟩) 32 32, .slice (some ⟨q3f, 0, none⟩) 32 32], 31), (ck (fun _ => 0), 23)] [(6, ck (kq R2))] [nn, nn, nn, eN 5, eR 5, eN 6, eS 6] ?_ ?_
  · exact oc (k_mv (.inl rfl) rfl) <|
    oc (k_sp (.pointer (some ⟨q2f, 0, none⟩)) (.slice (some ⟨q2f, 0, none⟩) 32 32) none none rfl rfl (fun w => sl_key w q2f)) <|
    oc (k_sp (.pointer (some ⟨q3f, 0, none⟩)) (.slice (some ⟨q3f, 0, none⟩) 32 32) none none rfl rfl (fun w => sl_key w q3f)) <|
    oc (k_bs #[(0, .slice (some ⟨q2f, 0, none⟩) 32 32), (1, .slice (some ⟨q3f, 0, none⟩) 32 32)] 5 (c := #[.slice (some ⟨q2f, 0, none⟩) 32 32, .slice (some ⟨q3f, 0, none⟩) 32 32]) (t0 := 31) (fun w => by kernel_rfl) rfl rfl) <|
    oc (k_cb 18 (fun q => #[.slice pa ln pc, .slice (some ⟨q, 0, none⟩) 2 2]) (.agg (ck (kq R2))) 5 27 (fun w q hk hq => cR2 w q2f q3f q (KW.below (hk1f _ (hk2f _ (hk3f _ hk)))) (hr2f _ (hk3f _ hk)) (hr3f _ hk) hq) rfl rfl (by simp) (fm := sl 0 2 2)) <|
    oc (k_al 6 alK rfl rfl) <|
    oc (k_st 6 0 (.agg (ck (kq R2))) (c := ck (fun _ => 0)) (n := ck (kq R2)) (stK (F := (kq R2)) (c := ck (fun _ => 0)) 23 (ck_size _)) rfl rfl) <|
    ok_nil
  clear h; intro β a w h
  refine sym_then ?_
  refine sym_seq ?_
  refine St.rg h [(29, .inl (.agg (ck (kp (mt (nbv (kq R1) 32) gG))))), (30, .inl (.agg (ck (kq R2)))), (31, .inl (.agg (ck S))), (32, .inl (.agg (ck (kq R1)))), (33, .inl (.agg (ck (kq ((nB (kq R2) 32 * nB S 32 + nB (kq R1) 32) % oL))))), (34, .inl (.agg (cw (jn (kp (mt (nbv (kq R1) 32) gG)) (kq ((nB (kq R2) 32 * nB S 32 + nB (kq R1) 32) % oL))))))] [] [(1, cw (jn (kp (mt (nbv (kq R1) 32) gG)) (kq ((nB (kq R2) 32 * nB S 32 + nB (kq R1) 32) % oL))))] [nn, eR 6, eR 2, eR 4, nn, nn, eS 1] ?_ ?_
  · exact oc (k_lf (.pointer (some ⟨q2f, 0, none⟩)) (.agg (ck (kp (mt (nbv (kq R1) 32) gG)))) (fun w hk => ldK (b := (kp (mt (nbv (kq R1) 32) gG))) 23 w q2f (hr2f _ (hk3f _ hk))) rfl rfl) <|
    oc (k_ld 6 0 (.agg (ck (kq R2))) (c := ck (kq R2)) (ldK (b := (kq R2)) 23) rfl rfl) <|
    oc (k_ld 2 0 (.agg (ck S)) (c := ck S) (ldK (b := S) 23) rfl rfl) <|
    oc (k_ld 4 0 (.agg (ck (kq R1))) (c := ck (kq R1)) (ldK (b := (kq R1)) 23) rfl rfl) <|
    oc (k_ca 24 #[.agg (ck (kq R2)), .agg (ck S), .agg (ck (kq R1))] (.agg (ck (kq ((nB (kq R2) 32 * nB S 32 + nB (kq R1) 32) % oL)))) (fun w => times_K (kq_lt _) hS (kq_lt _) w) rfl rfl) <|
    oc (k_ca 23 #[.agg (ck (kp (mt (nbv (kq R1) 32) gG))), .agg (ck (kq ((nB (kq R2) 32 * nB S 32 + nB (kq R1) 32) % oL)))] (.agg (cw (jn (kp (mt (nbv (kq R1) 32) gG)) (kq ((nB (kq R2) 32 * nB S 32 + nB (kq R1) 32) % oL))))) (fun w => join_d) rfl rfl) <|
    oc (k_st 1 0 (.agg (cw (jn (kp (mt (nbv (kq R1) 32) gG)) (kq ((nB (kq R2) 32 * nB S 32 + nB (kq R1) 32) % oL))))) (c := cw (fun _ => 0)) (n := cw (jn (kp (mt (nbv (kq R1) 32) gG)) (kq ((nB (kq R2) 32 * nB S 32 + nB (kq R1) 32) % oL)))) (stWd (F := (jn (kp (mt (nbv (kq R1) 32) gG)) (kq ((nB (kq R2) 32 * nB S 32 + nB (kq R1) 32) % oL)))) (c := cw (fun _ => 0)) 29 (ab_size _ _)) rfl rfl) <|
    ok_nil
  clear h; intro β a w h
  refine sym_then ?_
  refine wp_ret ?_
  exact s_rcW (b := 1) (t0 := 29) (c := cw (jn (kp (mt (nbv (kq R1) 32) gG)) (kq ((nB (kq R2) 32 * nB S 32 + nB (kq R1) 32) % oL)))) h Tryz.results8 Tryz.underlying29 (fun hb => ⟨rfl, KW.below (hk1f _ (hk2f _ (hk3f _ hb)))⟩) (cw_sz _)
end Go.Proofs.YtacokkedomjgpaaGreatDoor

namespace Go.Proofs.YtacokkedomjgpaaGreatDoor
open Go.RowKit
set_option maxHeartbeats 4000000 in
set_option maxRecDepth 100000 in
theorem right_q {k G : Nat → Nat} {p : Fp × Fp} {R2 ln pc : Nat} {pa_ : Option Addr} (hp : OC p) (hG : ∀ i, G i < 256) (W0 : World)
    (cP : ∀ w, Calls Tryz.prog 15 #[.agg (ck k)] w fun e w' => e = .returned (.tuple #[.agg (pvt p), .bool true]) ∧ Below w.heap.size w w')
    (cLe : ∀ w, Calls Tryz.prog 17 #[.agg (ck (hi32 G))] w fun e w' => e = .returned (.bool true) ∧ Below w.heap.size w w')
    (cR : ∀ (w : World) (g g' q : Nat), Below W0.heap.size W0 w → w.heap[g]? = some (.cells (ck G) 23 (0, 0)) → w.heap[g']? = some (.cells (ck k) 23 (0, 0)) → w.heap[q]? = some (.cells #[.slice (some ⟨g, 0, none⟩) 32 32, .slice (some ⟨g', 0, none⟩) 32 32] 31 (0, 0)) → Calls Tryz.prog 18 #[.slice pa_ ln pc, .slice (some ⟨q, 0, none⟩) 2 2] w fun e w' => e = .returned (.agg (ck (kq R2))) ∧ Below w.heap.size w w')
    (hE : ∀ i, i < 32 → kp (pa (mt (nbv (hi32 G) 32) gG) (pn (mt (nbv (kq R2) 32) p))) i = G i) :
    Calls Tryz.prog 7 #[.agg (ck k), .agg (cw G), .slice pa_ ln pc] W0 fun e w' => e = .returned (.bool true) ∧ Below W0.heap.size W0 w' := by
  refine s_in Tryz.func7 Tryz.ntmps7 rfl [.inl (.agg (ck k)), .inl (.agg (cw G)), .inl (.slice pa_ ln pc)] ?_
  intro β a h
  refine sym_seq ?_
  refine St.rg h [(3, .inr (0, pt 0)), (4, .inr (1, pt 0)), (6, .inl (.bool false))] [(ck k, 23), (cw G, 29)] [] [eN 0, eN 1] ?_ ?_
  · exact oc (k_bx 0 (.agg (ck k)) (bxK (b := k)) rfl rfl) <|
    oc (k_bx 1 (.agg (cw G)) (bxWd (F := G)) rfl rfl) <|
    oz (k_mv (.inr rfl) rfl) <|
    ok_nil
  clear h; intro β a w h
  refine sym_then ?_
  refine sym_seq ?_
  refine St.rg h [(13, .inl (.agg (ck k))), (14, .inl (.tuple #[.agg (pvt p), .bool true])), (12, .inl (.tuple #[.agg (pvt p), .bool true])), (15, .inl (.agg (pvt p))), (16, .inl (.bool true)), (7, .inr (2, pt 0)), (8, .inl (.bool true))] [(pvt pO, 48)] [(2, pvt p)] [eR 0, nn, nn, nn, nn, eN 2, eS 2] ?_ ?_
  · exact oc (k_ld 0 0 (.agg (ck k)) (c := ck k) (ldK (b := k) 23) rfl rfl) <|
    oc (k_ca 15 #[.agg (ck k)] (.tuple #[.agg (pvt p), .bool true]) cP rfl rfl) <|
    oc (k_mv (.inl rfl) rfl) <|
    oc (k_ex (.tuple #[.agg (pvt p), .bool true]) (.agg (pvt p)) rfl rfl) <|
    oc (k_ex (.tuple #[.agg (pvt p), .bool true]) (.bool true) rfl rfl) <|
    oc (k_al 2 alPt rfl rfl) <|
    oc (k_st 2 0 (.agg (pvt p)) (c := pvt pO) (n := pvt p) (stPt (p := p) (c := pvt pO) 48 (ces_size _)) rfl rfl) <|
    oz (k_mv (.inr rfl) rfl) <|
    ok_nil
  clear h; intro β a w h
  refine sym_then ?_
  refine sym_seq ?_
  refine St.rg h [(18, .inl (.agg (cw G))), (19, .inl (.tuple #[.agg (ck G), .agg (ck (hi32 G))])), (17, .inl (.tuple #[.agg (ck G), .agg (ck (hi32 G))])), (20, .inl (.agg (ck G))), (21, .inl (.agg (ck (hi32 G)))), (9, .inr (3, pt 0)), (10, .inr (4, pt 0))] [(ck (fun _ => 0), 23), (ck (fun _ => 0), 23)] [(3, ck G), (4, ck (hi32 G))] [eR 1, nn, nn, nn, nn, eN 3, eN 4, eS 3, eS 4] ?_ ?_
  · exact oc (k_ld 1 0 (.agg (cw G)) (c := cw G) (ldWd (F := G) 29) rfl rfl) <|
    oc (k_ca 16 #[.agg (cw G)] (.tuple #[.agg (ck G), .agg (ck (hi32 G))]) (fun w => halves_d G w) rfl rfl) <|
    oc (k_mv (.inl rfl) rfl) <|
    oc (k_ex (.tuple #[.agg (ck G), .agg (ck (hi32 G))]) (.agg (ck G)) rfl rfl) <|
    oc (k_ex (.tuple #[.agg (ck G), .agg (ck (hi32 G))]) (.agg (ck (hi32 G))) rfl rfl) <|
    oc (k_al 3 alK rfl rfl) <|
    oc (k_al 4 alK rfl rfl) <|
    oc (k_st 3 0 (.agg (ck G)) (c := ck (fun _ => 0)) (n := ck G) (stK (F := G) (c := ck (fun _ => 0)) 23 (ck_size _)) rfl rfl) <|
    oc (k_st 4 0 (.agg (ck (hi32 G))) (c := ck (fun _ => 0)) (n := ck (hi32 G)) (stK (F := (hi32 G)) (c := ck (fun _ => 0)) 23 (ck_size _)) rfl rfl) <|
    ok_nil
  clear h; intro β a w h
  refine sym_then ?_
  refine sym_seq ?_
  refine sym_seq ?_
  refine St.r0 h [(22, .inl (.bool true)), (23, .inl (.bool false)), (24, .inl (.bool false)), (25, .inl (.agg (ck (hi32 G)))), (26, .inl (.bool true)), (27, .inl (.bool false)), (28, .inl (.bool false))] [nn, nn, nn, eR 4] ?_ ?_
  · exact oc (k_mv (.inl rfl) rfl) <|
    oc (k_nt true rfl rfl) <|
    oc (k_mv (.inl rfl) rfl) <|
    oc (k_ld 4 0 (.agg (ck (hi32 G))) (c := ck (hi32 G)) (ldK (b := (hi32 G)) 23) rfl rfl) <|
    oz (k_ca 17 #[.agg (ck (hi32 G))] (.bool true) cLe rfl rfl) <|
    oz (k_nt true rfl rfl) <|
    oz (k_pf rfl rfl) <|
    ok_nil
  clear h; intro β a w h
  refine sym_then ?_
  refine s_cf h ?_
  refine wp_skip ?_
  refine sym_then ?_
  refine sym_seq ?_
  replace h := St.cs h (s' := [.inl (.agg (ck k)), .inl (.agg (cw G)), .inl (.slice pa_ ln pc), .inr (0, pt 0), .inr (1, pt 0), uu, .inl (.bool false), .inr (2, pt 0), .inl (.bool true), .inr (3, pt 0), .inr (4, pt 0), uu, .inl (.tuple #[.agg (pvt p), .bool true]), .inl (.agg (ck k)), .inl (.tuple #[.agg (pvt p), .bool true]), .inl (.agg (pvt p)), .inl (.bool true), .inl (.tuple #[.agg (ck G), .agg (ck (hi32 G))]), .inl (.agg (cw G)), .inl (.tuple #[.agg (ck G), .agg (ck (hi32 G))]), .inl (.agg (ck G)), .inl (.agg (ck (hi32 G))), .inl (.bool true), .inl (.bool false), .inl (.bool false), .inl (.agg (ck (hi32 G))), .inl (.bool true), .inl (.bool false), .inl (.bool false), uu, uu, uu, uu, uu, uu, uu, uu, uu, uu, uu, uu, uu, uu, uu]) (m' := [(ck k, 23), (cw G, 29), (pvt p, 48), (ck G, 23), (ck (hi32 G), 23)]) (by kernel_rfl) (by kernel_rfl)
  obtain ⟨W1f, q1f, βf, hk1f, hr1f, h⟩ := St.fixed h 3 (c := ck G) (t := 23)
  replace h := St.cs h (s' := [.inl (.agg (ck k)), .inl (.agg (cw G)), .inl (.slice pa_ ln pc), .inr (0, pt 0), .inr (1, pt 0), uu, .inl (.bool false), .inr (2, pt 0), .inl (.bool true), .inl (.pointer (some ⟨q1f, 0, none⟩)), .inr (3, pt 0), uu, .inl (.tuple #[.agg (pvt p), .bool true]), .inl (.agg (ck k)), .inl (.tuple #[.agg (pvt p), .bool true]), .inl (.agg (pvt p)), .inl (.bool true), .inl (.tuple #[.agg (ck G), .agg (ck (hi32 G))]), .inl (.agg (cw G)), .inl (.tuple #[.agg (ck G), .agg (ck (hi32 G))]), .inl (.agg (ck G)), .inl (.agg (ck (hi32 G))), .inl (.bool true), .inl (.bool false), .inl (.bool false), .inl (.agg (ck (hi32 G))), .inl (.bool true), .inl (.bool false), .inl (.bool false), uu, uu, uu, uu, uu, uu, uu, uu, uu, uu, uu, uu, uu, uu, uu]) (m' := [(ck k, 23), (cw G, 29), (pvt p, 48), (ck (hi32 G), 23)]) (by kernel_rfl) (by kernel_rfl)
  replace h := h.o0
  replace h := St.cs h (s' := [.inl (.agg (ck k)), .inl (.agg (cw G)), .inl (.slice pa_ ln pc), .inr (0, pt 0), .inr (1, pt 0), uu, .inl (.bool false), .inr (2, pt 0), .inl (.bool true), .inl (.pointer (some ⟨q1f, 0, none⟩)), .inr (3, pt 0), uu, .inl (.tuple #[.agg (pvt p), .bool true]), .inl (.agg (ck k)), .inl (.tuple #[.agg (pvt p), .bool true]), .inl (.agg (pvt p)), .inl (.bool true), .inl (.tuple #[.agg (ck G), .agg (ck (hi32 G))]), .inl (.agg (cw G)), .inl (.tuple #[.agg (ck G), .agg (ck (hi32 G))]), .inl (.agg (ck G)), .inl (.agg (ck (hi32 G))), .inl (.bool true), .inl (.bool false), .inl (.bool false), .inl (.agg (ck (hi32 G))), .inl (.bool true), .inl (.bool false), .inl (.bool false), uu, uu, uu, uu, uu, uu, uu, uu, uu, uu, uu, uu, uu, uu, uu]) (m' := [(ck k, 23), (cw G, 29), (pvt p, 48), (ck (hi32 G), 23)]) (by kernel_rfl) (by kernel_rfl)
  obtain ⟨W2f, q2f, βf, hk2f, hr2f, h⟩ := St.fixed h 0 (c := ck k) (t := 23)
  replace h := St.cs h (s' := [.inl (.agg (ck k)), .inl (.agg (cw G)), .inl (.slice pa_ ln pc), .inl (.pointer (some ⟨q2f, 0, none⟩)), .inr (0, pt 0), uu, .inl (.bool false), .inr (1, pt 0), .inl (.bool true), .inl (.pointer (some ⟨q1f, 0, none⟩)), .inr (2, pt 0), uu, .inl (.tuple #[.agg (pvt p), .bool true]), .inl (.agg (ck k)), .inl (.tuple #[.agg (pvt p), .bool true]), .inl (.agg (pvt p)), .inl (.bool true), .inl (.tuple #[.agg (ck G), .agg (ck (hi32 G))]), .inl (.agg (cw G)), .inl (.tuple #[.agg (ck G), .agg (ck (hi32 G))]), .inl (.agg (ck G)), .inl (.agg (ck (hi32 G))), .inl (.bool true), .inl (.bool false), .inl (.bool false), .inl (.agg (ck (hi32 G))), .inl (.bool true), .inl (.bool false), .inl (.bool false), uu, uu, uu, uu, uu, uu, uu, uu, uu, uu, uu, uu, uu, uu, uu]) (m' := [(cw G, 29), (pvt p, 48), (ck (hi32 G), 23)]) (by kernel_rfl) (by kernel_rfl)
  replace h := h.o0
  refine St.rg h [(29, .inl (.slice pa_ ln pc)), (30, .inl (.slice (some ⟨q1f, 0, none⟩) 32 32)), (31, .inl (.slice (some ⟨q2f, 0, none⟩) 32 32)), (32, .inr (3, sl 0 2 2)), (33, .inl (.agg (ck (kq R2)))), (11, .inr (4, pt 0))] [(#[.slice (some ⟨q1f, 0, none⟩) 32 32, .slice (some ⟨q2f, 0, none⟩) 32 32], 31), (ck (fun _ => 0), 23)] [(4, ck (kq R2))] [nn, nn, nn, eN 3, eR 3, eN 4, eS 4] ?_ ?_
  · exact oc (k_mv (.inl rfl) rfl) <|
    oc (k_sp (.pointer (some ⟨q1f, 0, none⟩)) (.slice (some ⟨q1f, 0, none⟩) 32 32) none none rfl rfl (fun w => sl_key w q1f)) <|
    oc (k_sp (.pointer (some ⟨q2f, 0, none⟩)) (.slice (some ⟨q2f, 0, none⟩) 32 32) none none rfl rfl (fun w => sl_key w q2f)) <|
    oc (k_bs #[(0, .slice (some ⟨q1f, 0, none⟩) 32 32), (1, .slice (some ⟨q2f, 0, none⟩) 32 32)] 3 (c := #[.slice (some ⟨q1f, 0, none⟩) 32 32, .slice (some ⟨q2f, 0, none⟩) 32 32]) (t0 := 31) (fun w => by kernel_rfl) rfl rfl) <|
    oc (k_cb 18 (fun q => #[.slice pa_ ln pc, .slice (some ⟨q, 0, none⟩) 2 2]) (.agg (ck (kq R2))) 3 32 (fun w q hk hq => cR w q1f q2f q (KW.below (hk1f _ (hk2f _ hk))) (hr1f _ (hk2f _ hk)) (hr2f _ hk) hq) rfl rfl (by simp) (fm := sl 0 2 2)) <|
    oc (k_al 4 alK rfl rfl) <|
    oc (k_st 4 0 (.agg (ck (kq R2))) (c := ck (fun _ => 0)) (n := ck (kq R2)) (stK (F := (kq R2)) (c := ck (fun _ => 0)) 23 (ck_size _)) rfl rfl) <|
    ok_nil
  clear h; intro β a w h
  refine sym_then ?_
  refine sym_seq ?_
  refine St.r0 h [(34, .inl (.agg (pvt gG))), (35, .inl (.agg (ck (hi32 G)))), (36, .inl (.agg (pvt (mt (nbv (hi32 G) 32) gG)))), (37, .inl (.agg (pvt p))), (38, .inl (.agg (ck (kq R2)))), (39, .inl (.agg (pvt (mt (nbv (kq R2) 32) p)))), (40, .inl (.agg (pvt (pa (mt (nbv (hi32 G) 32) gG) (pn (mt (nbv (kq R2) 32) p)))))), (41, .inl (.agg (ck (kp (pa (mt (nbv (hi32 G) 32) gG) (pn (mt (nbv (kq R2) 32) p))))))), (42, .inl (.agg (ck G))), (43, .inl (.bool true)), (6, .inl (.bool true))] [nn, eR 2, nn, eR 1, eR 4] ?_ ?_
  · exact oc (k_ca 19 #[] (.agg (pvt gG)) gen_pv rfl rfl) <|
    oc (k_ld 2 0 (.agg (ck (hi32 G))) (c := ck (hi32 G)) (ldK (b := (hi32 G)) 23) rfl rfl) <|
    oc (k_ca 20 #[.agg (pvt gG), .agg (ck (hi32 G))] (.agg (pvt (mt (nbv (hi32 G) 32) gG))) (fun w => many_pv gG_oc (fun i => hG (32 + i)) w) rfl rfl) <|
    oc (k_ld 1 0 (.agg (pvt p)) (c := pvt p) (ldPt (p := p) 48) rfl rfl) <|
    oc (k_ld 4 0 (.agg (ck (kq R2))) (c := ck (kq R2)) (ldK (b := (kq R2)) 23) rfl rfl) <|
    oz (k_ca 20 #[.agg (pvt p), .agg (ck (kq R2))] (.agg (pvt (mt (nbv (kq R2) 32) p))) (fun w => many_pv hp (kq_lt _) w) rfl rfl) <|
    oz (k_ca 21 #[.agg (pvt (mt (nbv (hi32 G) 32) gG)), .agg (pvt (mt (nbv (kq R2) 32) p))] (.agg (pvt (pa (mt (nbv (hi32 G) 32) gG) (pn (mt (nbv (kq R2) 32) p))))) (fun w => minus_pv (mt_oc gG_oc _) (mt_oc hp _) w) rfl rfl) <|
    oz (k_ca 22 #[.agg (pvt (pa (mt (nbv (hi32 G) 32) gG) (pn (mt (nbv (kq R2) 32) p))))] (.agg (ck (kp (pa (mt (nbv (hi32 G) 32) gG) (pn (mt (nbv (kq R2) 32) p)))))) (fun w => key_pv _ w) rfl rfl) <|
    oz (k_lf (.pointer (some ⟨q1f, 0, none⟩)) (.agg (ck G)) (fun w hk => ldK (b := G) 23 w q1f (hr1f _ (hk2f _ hk))) rfl rfl) <|
    oz (k_bi (.agg (ck (kp (pa (mt (nbv (hi32 G) 32) gG) (pn (mt (nbv (kq R2) 32) p)))))) (.agg (ck G)) (.bool true) (eqK_t (F := (kp (pa (mt (nbv (hi32 G) 32) gG) (pn (mt (nbv (kq R2) 32) p))))) (G := G) hE) rfl rfl) <|
    oz (k_mv (.inr rfl) rfl) <|
    ok_nil
  clear h; intro β a w h
  refine sym_then ?_
  refine wp_ret ?_
  exact s_rtW h Tryz.results7 (fun hb => ⟨rfl, KW.below (hk1f _ (hk2f _ hb))⟩)
end Go.Proofs.YtacokkedomjgpaaGreatDoor

namespace Go.Proofs.YtacokkedomjgpaaGreatDoor
open Go.RowKit Lo
def sec (f : Nat → Nat) : Nat → Nat := clmp (lg 32 f)
def slt (f : Nat → Nat) : Nat → Nat := hi32 (lg 32 f)
def pub (f : Nat → Nat) : Fp × Fp := mt (nbv (sec f) 32) gG
theorem sec_lt (f : Nat → Nat) (i : Nat) : sec f i < 256 := clmp_lt (lg_lt 32 f) i
theorem slt_lt (f : Nat → Nat) (i : Nat) : slt f i < 256 := lg_lt 32 f (32 + i)
theorem public_d {f : Nat → Nat} {W0 : World} (hg : Gl W0) (hf : ∀ i, f i < 256) : Calls Tryz.prog 5 #[.agg (ck f)] W0 fun e w' => e = .returned (.agg (ck (kp (pub f)))) ∧ Below W0.heap.size W0 w' :=
  public_q (T := slt f) (sec_lt f) W0 fun _ hb => open_d (gl_b hg hb) hf
def r1 (f : Nat → Nat) (L : List Pt) : Nat := rsd ([(32, slt f)] ++ L)
def fst_ (f : Nat → Nat) (L : List Pt) : Nat → Nat := kp (mt (nbv (kq (r1 f L)) 32) gG)
def r2 (f : Nat → Nat) (L : List Pt) : Nat := rsd ([(32, fst_ f L), (32, kp (pub f))] ++ L)
def sgn (f : Nat → Nat) (L : List Pt) : Nat → Nat := jn (fst_ f L) (kq ((nB (kq (r2 f L)) 32 * nB (sec f) 32 + nB (kq (r1 f L)) 32) % oL))
theorem ps_2 {w : World} {g : Nat} {x y : Pt} {a b : Option Addr} {ca cb : Nat} {t : TypeId} (h : w.heap[g]? = some (.cells #[.slice a x.1 ca, .slice b y.1 cb] t (0, 0))) (ha : Bs w a x.1 x.2) (hca : x.1 ≤ ca) (hla : ∀ p, a = some p → p.block < w.heap.size) (hb : Bs w b y.1 y.2) (hcb : y.1 ≤ cb) (hlb : ∀ p, b = some p → p.block < w.heap.size) : PsAt w (some ⟨g, 0, none⟩) [x, y] := fun _ =>
  ⟨g, 0, rfl, fun i hi => by
    have hc : i = 0 ∨ i = 1 := by simp at hi; omega
    rcases hc with rfl | rfl
    · exact ⟨a, ca, by rw [cell_of_row _ _ _ _ _ _ h]; rfl, ha, hca, hla⟩
    · exact ⟨b, cb, by rw [cell_of_row _ _ _ _ _ _ h]; rfl, hb, hcb, hlb⟩⟩
theorem lenS_app (M L : List Pt) : lenS (M ++ L) = lenS M + lenS L := by simp [lenS]
theorem res_2 {L : List Pt} {pa : Option Addr} {pc : Nat} {W0 w : World} {g g' q : Nat} {F G : Nat → Nat} (hg : Gl W0) (hP : PsAt W0 pa L) (hL : ∀ x ∈ L, ∀ i, x.2 i < 256) (hlen : lenS L ≤ 1000000) (hn : L.length ≤ 100) (hF : ∀ i, F i < 256) (hG : ∀ i, G i < 256)
    (hb : Below W0.heap.size W0 w) (h1 : w.heap[g]? = some (.cells (ck F) 23 (0, 0))) (h2 : w.heap[g']? = some (.cells (ck G) 23 (0, 0))) (h3 : w.heap[q]? = some (.cells #[.slice (some ⟨g, 0, none⟩) 32 32, .slice (some ⟨g', 0, none⟩) 32 32] 31 (0, 0))) :
    Calls Tryz.prog 18 #[.slice pa L.length pc, .slice (some ⟨q, 0, none⟩) 2 2] w fun e w' => e = .returned (.agg (ck (kq (rsd ([(32, F), (32, G)] ++ L))))) ∧ Below w.heap.size w w' :=
  residue_d (M := [(32, F), (32, G)]) (gl_b hg hb) (hP.later hb) (ps_2 (x := (32, F)) (y := (32, G)) h3 (bs_key hF h1) (Nat.le_refl _) (fun p e => by cases e; exact (Array.getElem?_eq_some_iff.1 h1).1) (bs_key hG h2) (Nat.le_refl _) (fun p e => by cases e; exact (Array.getElem?_eq_some_iff.1 h2).1)) (by simp) hL (fun x hx i => by
    rcases List.mem_cons.1 hx with rfl | hx
    · exact hF i
    · rcases List.mem_cons.1 hx with rfl | hx
      · exact hG i
      · cases hx) (by rw [lenS_app]; simp [lenS] at hlen ⊢; omega) (by simp; omega)
theorem sign_d {f : Nat → Nat} {L : List Pt} {pa : Option Addr} {pc : Nat} {W0 : World} (hg : Gl W0) (hf : ∀ i, f i < 256) (hP : PsAt W0 pa L) (hL : ∀ x ∈ L, ∀ i, x.2 i < 256) (hlen : lenS L ≤ 1000000) (hn : L.length ≤ 100) :
    Calls Tryz.prog 8 #[.agg (ck f), .slice pa L.length pc] W0 fun e w' => e = .returned (.agg (cw (sgn f L))) ∧ Below W0.heap.size W0 w' := by
  refine sign_q (S := sec f) (T := slt f) (R1 := r1 f L) (R2 := r2 f L) (sec_lt f) W0 (fun _ hb => open_d (gl_b hg hb) hf) (fun w g q hb h1 h2 => ?_) (fun w g g' q hb h1 h2 h3 => ?_)
  · exact residue_d (M := [(32, slt f)]) (gl_b hg hb) (hP.later hb) (ps_1 (x := (32, slt f)) h2 (bs_key (slt_lt f) h1) (Nat.le_refl _) (fun p e => by cases e; exact (Array.getElem?_eq_some_iff.1 h1).1)) (by simp) hL (fun x hx i => by
      rcases List.mem_cons.1 hx with rfl | hx
      · exact slt_lt f i
      · cases hx) (by rw [lenS_app]; simp [lenS] at hlen ⊢; omega) (by simp; omega)
  · exact res_2 hg hP hL hlen hn (kp_lt _) (kp_lt _) hb h1 h2 h3
theorem jn_lo (F G : Nat → Nat) : ck (jn F G) = ck F := ck_congr fun i hi => by unfold jn; rw [if_pos hi]
theorem jn_hi (F G : Nat → Nat) : hi32 (jn F G) = G := by
  funext i
  unfold hi32 jn
  rw [if_neg (by omega), show 32 + i - 32 = i by omega]
theorem kq_self {n : Nat} (h : n < oL) : ∀ i, i < 32 → kq (nB (kq n) 32 % oL) i = kq n i := fun i _ => by
  rw [nB_nbv, oL_256 h, Nat.mod_eq_of_lt h]
theorem sgn_lt (f : Nat → Nat) (L : List Pt) (i : Nat) : sgn f L i < 256 := by
  unfold sgn jn
  split
  · exact kp_lt _ _
  · exact kq_lt _ _
theorem rsd_lt (L : List Pt) : rsd L < oL := Nat.mod_lt _ oL_pos
theorem sgn_eq (s r h : Nat) : pa (mt ((h * s + r) % oL) gG) (pn (mt h (mt s gG))) = mt r gG := by
  have o1 := mt_oc gG_oc (h * s)
  rw [mt_mod, mt_mul gG_oc, Nat.add_comm, ← mt_add gG_oc r (h * s), pa_assoc (mt_oc gG_oc r) o1 (oc_n o1), pa_n o1, pa_O]
theorem rsd_cong {M L L' : List Pt} (hl : lenS L = lenS L') (hj : ∀ i, joinF (M ++ L) i = joinF (M ++ L') i) : rsd (M ++ L) = rsd (M ++ L') := by
  unfold rsd
  rw [lenS_app, lenS_app, hl, lg_cong fun i _ => hj i]
theorem right_d {f : Nat → Nat} {L K : List Pt} {pa_ : Option Addr} {pc : Nat} {W0 : World} (hg : Gl W0) (hP : PsAt W0 pa_ K) (hK : ∀ x ∈ K, ∀ i, x.2 i < 256) (hlen : lenS K ≤ 1000000) (hn : K.length ≤ 100) (hs : lenS K = lenS L) (hj : ∀ M : List Pt, ∀ i, joinF (M ++ K) i = joinF (M ++ L) i) :
    Calls Tryz.prog 7 #[.agg (ck (kp (pub f))), .agg (cw (sgn f L)), .slice pa_ K.length pc] W0 fun e w' => e = .returned (.bool true) ∧ Below W0.heap.size W0 w' := by
  have hi : hi32 (sgn f L) = kq ((nB (kq (r2 f L)) 32 * nB (sec f) 32 + nB (kq (r1 f L)) 32) % oL) := jn_hi _ _
  have e1 : nB (kq (r1 f L)) 32 = r1 f L := by rw [nB_nbv]; exact oL_256 (rsd_lt _)
  have e2 : nB (kq (r2 f L)) 32 = r2 f L := by rw [nB_nbv]; exact oL_256 (rsd_lt _)
  refine right_q (p := pub f) (R2 := r2 f L) (mt_oc gG_oc _) (sgn_lt f L) W0 (fun w => of_pv (mt_oc gG_oc _) w) (fun w => ?_) (fun w g g' q hb h1 h2 h3 => ?_) (fun i h32 => ?_)
  · rw [hi]
    exact least_t (kq_lt _) (kq_self (Nat.mod_lt _ oL_pos)) w
  · have e : ck (sgn f L) = ck (fst_ f L) := jn_lo _ _
    rw [e] at h1
    have := res_2 (pc := pc) hg hP hK hlen hn (kp_lt _) (kp_lt _) hb h1 h2 h3
    rw [rsd_cong hs (fun i => hj _ i)] at this
    exact this
  · rw [hi, oL_256 (Nat.mod_lt _ oL_pos), e1, e2, show nbv (kq (r2 f L)) 32 = r2 f L from oL_256 (rsd_lt _), nB_nbv]
    show kp (pa _ (pn (mt _ (mt (nbv (sec f) 32) gG)))) i = _
    rw [sgn_eq]
    unfold sgn jn
    rw [if_pos h32]
    unfold fst_
    rw [show nbv (kq (r1 f L)) 32 = r1 f L from oL_256 (rsd_lt _)]
end Go.Proofs.YtacokkedomjgpaaGreatDoor

namespace Go.Proofs.YtacokkedomjgpaaGreatDoor.Lo
open Go.RowKit
/-! Reckoned: one piece. -/
def frc {α : Type} (x : Nat) (k : Nat → α) : α := Nat.rec (motive := fun _ => α) (k 0) (fun n _ => k (n + 1)) x
theorem frc_e {α : Type} (x : Nat) (k : Nat → α) : frc x k = k x := by cases x <;> rfl
def wN (l : List Nat) : Nat := (((loW (l.getD 1 0) 19 61 6 + l.getD 6 0) % B64 + loW (l.getD 14 0) 1 8 7) % B64 + l.getD 15 0) % B64
def wl : Nat → List Nat → List Nat
  | 0, l => l
  | k + 1, l => frc (wN l) fun v => wl k (v :: l)
def Rv (F : Nat → Nat) (n : Nat) (l : List Nat) : Prop := l.length = n ∧ ∀ i, i < n → l.getD (n - 1 - i) 0 = F i
theorem r80_old (p : Nat → Nat) (k : Nat) {i : Nat} (h : i ≠ 16 + k) : r80 p (k + 1) i = r80 p k i := by
  show updN (r80 p k) (16 + k) _ i = _
  unfold updN; rw [if_neg h]
theorem wl_rv (p : Nat → Nat) : ∀ k j l, Rv (r80 p j) (16 + j) l → Rv (r80 p (j + k)) (16 + (j + k)) (wl k l)
  | 0, _, _, h => h
  | k + 1, j, l, h => by
    show Rv _ _ (frc (wN l) fun v => wl k (v :: l))
    rw [frc_e]
    have h2 : Rv (r80 p (j + 1)) (16 + (j + 1)) (wN l :: l) := by
      refine ⟨by simp [h.1]; omega, fun i hi => ?_⟩
      by_cases e : i = 16 + j
      · subst e
        rw [show 16 + (j + 1) - 1 - (16 + j) = 0 by omega]
        show wN l = updN (r80 p j) (16 + j) _ (16 + j)
        unfold updN; rw [if_pos rfl]
        unfold wN
        have g2 := h.2 (16 + j - 2) (by omega)
        have g7 := h.2 (16 + j - 7) (by omega)
        have g15 := h.2 (16 + j - 15) (by omega)
        have g16 := h.2 (16 + j - 16) (by omega)
        rw [show 16 + j - 1 - (16 + j - 2) = 1 by omega] at g2
        rw [show 16 + j - 1 - (16 + j - 7) = 6 by omega] at g7
        rw [show 16 + j - 1 - (16 + j - 15) = 14 by omega] at g15
        rw [show 16 + j - 1 - (16 + j - 16) = 15 by omega] at g16
        rw [g2, g7, g15, g16]
      · rw [r80_old p j e, ← h.2 i (by omega), show 16 + (j + 1) - 1 - i = (16 + j - 1 - i) + 1 by omega]
        rfl
    have h3 := wl_rv p k (j + 1) (wN l :: l) h2
    rwa [show j + 1 + k = j + (k + 1) by omega] at h3
def rnd : List Nat → List Nat → Nat → Nat → Nat → Nat → Nat → Nat → Nat → Nat → List Nat
  | c :: cs, r :: rs, v0, v1, v2, v3, v4, v5, v6, v7 =>
    frc ((((((v7 + hiW v4 14 18 41) % B64) + ((v4 &&& v5) ||| ((18446744073709551615 ^^^ v4) &&& v6))) % B64 + c / 2 ^ 0) % B64 + r) % B64) fun o =>
    frc ((o + ((hiW v0 28 34 39 + (((v0 &&& v1) ||| (v0 &&& v2)) ||| (v1 &&& v2))) % B64)) % B64) fun a =>
    frc ((v3 + o) % B64) fun e => rnd cs rs a v0 v1 v2 e v4 v5 v6
  | _, _, v0, v1, v2, v3, v4, v5, v6, v7 => [v0, v1, v2, v3, v4, v5, v6, v7]
theorem rnd_s (c r : Nat) (cs rs : List Nat) (v0 v1 v2 v3 v4 v5 v6 v7 : Nat) : rnd (c :: cs) (r :: rs) v0 v1 v2 v3 v4 v5 v6 v7 = rnd cs rs (((((((v7 + hiW v4 14 18 41) % B64) + ((v4 &&& v5) ||| ((18446744073709551615 ^^^ v4) &&& v6))) % B64 + c / 2 ^ 0) % B64 + r) % B64 + ((hiW v0 28 34 39 + (((v0 &&& v1) ||| (v0 &&& v2)) ||| (v1 &&& v2))) % B64)) % B64) v0 v1 v2 ((v3 + (((((v7 + hiW v4 14 18 41) % B64) + ((v4 &&& v5) ||| ((18446744073709551615 ^^^ v4) &&& v6))) % B64 + c / 2 ^ 0) % B64 + r) % B64) % B64) v4 v5 v6 := by
  show frc _ _ = _
  rw [frc_e, frc_e, frc_e]
theorem rnd_e (H R : Nat → Nat) : ∀ (k t : Nat), rnd ((List.range' t k).map cu) ((List.range' t k).map R) (vS H R t 0) (vS H R t 1) (vS H R t 2) (vS H R t 3) (vS H R t 4) (vS H R t 5) (vS H R t 6) (vS H R t 7) = [vS H R (t + k) 0, vS H R (t + k) 1, vS H R (t + k) 2, vS H R (t + k) 3, vS H R (t + k) 4, vS H R (t + k) 5, vS H R (t + k) 6, vS H R (t + k) 7]
  | 0, t => rfl
  | k + 1, t => by
    have h := rnd_e H R k (t + 1)
    rw [List.range'_succ, List.map_cons, List.map_cons, rnd_s, vS_s0, vS_s4, vS_s1 H R t, vS_s2 H R t, vS_s3 H R t, vS_s5 H R t, vS_s6 H R t, vS_s7 H R t, h, show t + 1 + k = t + (k + 1) by omega]
theorem mixH_w (H p : Nat → Nat) {i : Nat} (hi : i < 8) : mixH H p i = (H i + vS H (r80 p 64) 80 i) % B64 := by
  unfold mixH
  have h1 : ∀ k j, k ≤ j → hF H (vS H (r80 p 64) 80) k j = H j := by
    intro k
    induction k with
    | zero => intro _ _; rfl
    | succ k ih =>
      intro j hj
      show updN (hF H _ k) k _ j = _
      unfold updN; rw [if_neg (by omega)]; exact ih j (by omega)
  have h2 : ∀ k j, j < k → hF H (vS H (r80 p 64) 80) k j = (H j + vS H (r80 p 64) 80 j) % B64 := by
    intro k
    induction k with
    | zero => intro _ h; omega
    | succ k ih =>
      intro j hj
      show updN (hF H _ k) k _ j = _
      unfold updN
      by_cases e : j = k
      · subst e; rw [if_pos rfl, h1 j j (Nat.le_refl _)]
      · rw [if_neg e]; exact ih j (by omega)
  exact h2 8 i hi
theorem map_rev {R : Nat → Nat} {n : Nat} {l : List Nat} (h : Rv R n l) : (List.range' 0 n).map R = l.reverse := by
  apply List.ext_getElem?
  intro i
  rw [List.getElem?_map]
  rcases Nat.lt_or_ge i n with hi | hi
  · rw [List.getElem?_range' hi, Option.map_some, List.getElem?_reverse (by rw [h.1]; exact hi), h.1]
    have h2 := h.2 i hi
    rw [List.getD_eq_getElem?_getD, List.getElem?_eq_getElem (by rw [h.1]; omega), Option.getD_some] at h2
    rw [List.getElem?_eq_getElem (by rw [h.1]; omega), h2]
    simp
  · rw [List.getElem?_eq_none (by simpa using hi), List.getElem?_eq_none (by rw [List.length_reverse, h.1]; exact hi)]; rfl
def oneH (H : Nat → Nat) (l0 : List Nat) : List Nat := rnd ((List.range' 0 80).map cu) (wl 64 l0).reverse (H 0) (H 1) (H 2) (H 3) (H 4) (H 5) (H 6) (H 7)
theorem rnd_0 (H R : Nat → Nat) (k : Nat) : rnd ((List.range' 0 k).map cu) ((List.range' 0 k).map R) (H 0) (H 1) (H 2) (H 3) (H 4) (H 5) (H 6) (H 7) = [vS H R k 0, vS H R k 1, vS H R k 2, vS H R k 3, vS H R k 4, vS H R k 5, vS H R k 6, vS H R k 7] := by
  have h := rnd_e H R k 0
  rw [Nat.zero_add] at h
  exact h
theorem get8 (F : Nat → Nat) {i : Nat} (hi : i < 8) : [F 0, F 1, F 2, F 3, F 4, F 5, F 6, F 7].getD i 0 = F i := by
  have hc : i = 0 ∨ i = 1 ∨ i = 2 ∨ i = 3 ∨ i = 4 ∨ i = 5 ∨ i = 6 ∨ i = 7 := by omega
  rcases hc with rfl | rfl | rfl | rfl | rfl | rfl | rfl | rfl <;> rfl
theorem mix_one {H p : Nat → Nat} {l0 : List Nat} (h : Rv (r80 p 0) 16 l0) {i : Nat} (hi : i < 8) : mixH H p i = (H i + (oneH H l0).getD i 0) % B64 := by
  rw [mixH_w H p hi]
  have h2 : (List.range' 0 80).map (r80 p 64) = (wl 64 l0).reverse := map_rev (wl_rv p 64 0 l0 h)
  have h3 := rnd_0 H (r80 p 64) 80
  rw [h2] at h3
  unfold oneH
  rw [h3, get8 (vS H (r80 p 64) 80) hi]
theorem lg_one {n : Nat} {f : Nat → Nat} {l0 : List Nat} (hn : nP n = 1) (h : Rv (r16 (padF f n) 16) 16 l0) {i : Nat} (hi : i < 64) : lg n f i = (bgF 8 (i / 8) + (oneH (bgF 8) l0).getD (i / 8) 0) % B64 / 256 ^ (7 - i % 8) % 256 := by
  have hp : (fun i => padF f n (128 * 0 + i)) = padF f n := by funext i; rw [Nat.mul_zero, Nat.zero_add]
  unfold lg
  rw [outF_e 8 i (by omega), hn]
  show mixH (bgF 8) (fun i => padF f n (128 * 0 + i)) (i / 8) / _ % 256 = _
  rw [hp, mix_one h (by omega)]
def zs0 : List Nat := [256, 0, 0, 0, 0, 0, 0, 0, 0, 0, 0, 9223372036854775808, 0, 0, 0, 0]
theorem rv_zs0 : Rv (r16 (padF (fun _ => 0) 32) 16) 16 zs0 := ⟨rfl, by decide +kernel⟩
def dz : List Nat := [80, 70, 173, 193, 219, 168, 56, 134, 123, 43, 187, 253, 208, 195, 66, 62, 88, 181, 121, 112, 181, 38, 122, 144, 245, 121, 96, 146, 74, 135, 241, 150, 10, 106, 133, 234, 166, 66, 218, 200, 53, 66, 75, 93, 124, 141, 99, 124, 0, 64, 140, 122, 115, 218, 103, 43, 127, 73, 133, 33, 66, 11, 109, 211]
theorem lg_zero : ∀ i, i < 64 → lg 32 (fun _ => 0) i = dz.getD i 0 := by
  have h : ∀ i, i < 64 → (bgF 8 (i / 8) + (oneH (bgF 8) zs0).getD (i / 8) 0) % B64 / 256 ^ (7 - i % 8) % 256 = dz.getD i 0 := by
    have e : oneH (bgF 8) zs0 = [16590354316283047806, 13818184367001344771, 2037463206167937637, 5776266022435338917, 13356607129400399863, 11114007369083713373, 16194014959973738944, 2551491534185647194] := by decide +kernel
    rw [e]
    decide +kernel
  intro i hi
  rw [lg_one (by decide +kernel) rv_zs0 hi]
  exact h i hi
end Go.Proofs.YtacokkedomjgpaaGreatDoor.Lo

namespace Go.Proofs.YtacokkedomjgpaaGreatDoor
open Go.RowKit Lo
def sz : List Nat := [80, 70, 173, 193, 219, 168, 56, 134, 123, 43, 187, 253, 208, 195, 66, 62, 88, 181, 121, 112, 181, 38, 122, 144, 245, 121, 96, 146, 74, 135, 241, 86]
theorem sz_lt : ∀ i, kl sz i < 256 := kl_lt (by decide)
theorem nbv_cong {f g : Nat → Nat} : ∀ k, (∀ i, i < k → f i = g i) → nbv f k = nbv g k
  | 0, _ => rfl
  | k + 1, h => by
    show nbv f k + f k * 256 ^ k = nbv g k + g k * 256 ^ k
    rw [nbv_cong k fun i hi => h i (by omega), h k (by omega)]
theorem sec_zero : ∀ i, i < 32 → sec (fun _ => 0) i = kl sz i := by
  have h := lg_zero
  have hd : ∀ i, i < 32 → clmp (fun i => dz.getD i 0) i = kl sz i := by decide +kernel
  intro i hi
  rw [← hd i hi]
  unfold sec clmp updN
  simp only [h 0 (by omega), h 31 (by omega), h i (by omega), if_pos]
def pz : Nat × Nat × Nat × Nat := fldM sumS (0, ad 0 1, 1, mu 0 (ad 0 1)) (gX, ad gB 1, 1, mu gX (ad gB 1)) (tops (kl sz) (8 * 32) (8 * 32))
theorem pz_y : pz.2.1 = 17795544213405850948028099440025783432366700216335096857458890025222446584369 := by decide +kernel
theorem pz_z : pz.2.2.1 = 30672236085765731992549992651391047967651261110835721834037163334710935651253 := by decide +kernel
theorem pz_i : inv 30672236085765731992549992651391047967651261110835721834037163334710935651253 = 49966580286063331965045471831957328715853262354575492137589563664305666449690 := by decide +kernel
theorem pz_v : mu pz.2.1 (mu 1 (inv pz.2.2.1)) % 256 = 59 ∧ mu pz.2.1 (mu 1 (inv pz.2.2.1)) / 256 % 256 = 106 := by
  rw [pz_y, pz_z, pz_i]; decide +kernel
theorem pj_y {v : Nat × Nat × Nat × Nat} {p : Fp × Fp} (h : Gd v ∧ Pj v p) : mu v.2.1 (mu 1 (inv v.2.2.1)) = p.2.val := by
  obtain ⟨g, nz, e1, e2, -⟩ := h
  have hi : cf v.2.2.1 * cf (inv v.2.2.1) = 1 := by
    have := fi_mul nz
    unfold fi at this
    rwa [cf_sv g.2.2.1] at this
  refine cf_inj (mu_lt _ _) p.2.isLt ?_
  rw [cf_mu, cf_mu, cf_one, e2, cf_val]; exact g_pt _ _ _ hi
theorem mt_pz {f : Nat → Nat} (hf : ∀ i, f i < 256) : Gd (fldM sumS (0, ad 0 1, 1, mu 0 (ad 0 1)) (gX, ad gB 1, 1, mu gX (ad gB 1)) (tops f (8 * 32) (8 * 32))) ∧ Pj (fldM sumS (0, ad 0 1, 1, mu 0 (ad 0 1)) (gX, ad gB 1, 1, mu gX (ad gB 1)) (tops f (8 * 32) (8 * 32))) (mt (nbv f 32) gG) := by
  have gO : Gd (0, ad 0 1, 1, mu 0 (ad 0 1)) := ⟨zero_ltp, ad_lt _ _, one_ltp, mu_lt _ _⟩
  have gg : Gd (gX, ad gB 1, 1, mu gX (ad gB 1)) := ⟨gX_lt, ad_lt _ _, one_ltp, mu_lt _ _⟩
  have hr := fldM_rel (add := sumS) (no := (0, ad 0 1, 1, mu 0 (ad 0 1))) (one := (gX, ad gB 1, 1, mu gX (ad gB 1))) gG_oc (Rl := fun v q => Gd v ∧ Pj v q) (fun u v q r hq hr h1 h2 => ⟨sumS_gd _ _, sumS_pj h1.1 h2.1 hq hr h1.2 h2.2⟩) ⟨gO, O_sh⟩ ⟨gg, G_sh⟩ (tops f (8 * 32) (8 * 32))
  rw [tops_all hf] at hr
  exact hr
theorem pz_pub : Gd pz ∧ Pj pz (mt (nbv (kl sz) 32) gG) := mt_pz sz_lt
theorem pub_sz : pub (fun _ => 0) = mt (nbv (kl sz) 32) gG := by unfold pub; rw [nbv_cong 32 sec_zero]
theorem kp_kb {p : Fp × Fp} {y i : Nat} (hy : y = p.2.val) (h : i ≠ 31) : kp p i = kb y i := by
  subst hy
  unfold kp tk
  split
  · rfl
  · unfold updN; rw [if_neg h]
theorem pub_zero : kp (pub fun _ => 0) 0 = 59 ∧ kp (pub fun _ => 0) 1 = 106 := by
  have hy := pj_y pz_pub
  rw [← pub_sz] at hy
  rw [kp_kb hy (by decide), kp_kb hy (by decide)]
  have hv := pz_v
  unfold kb
  rw [Nat.pow_zero, Nat.div_one, Nat.pow_one]
  exact hv
end Go.Proofs.YtacokkedomjgpaaGreatDoor

namespace Go.Proofs.YtacokkedomjgpaaGreatDoor
open Go.RowKit Lo
def cat2 (la : Nat) (fa fb : Nat → Nat) (i : Nat) : Nat := if i < la then fa i else fb (i - la)
theorem cat2_lt {la : Nat} {fa fb : Nat → Nat} (ha : ∀ i, fa i < 256) (hb : ∀ i, fb i < 256) (i : Nat) : cat2 la fa fb i < 256 := by
  unfold cat2
  split
  · exact ha _
  · exact hb _
theorem join_cat (la lb : Nat) (fa fb : Nat → Nat) : ∀ (M : List Pt) (i : Nat), joinF (M ++ [(la + lb, cat2 la fa fb)]) i = joinF (M ++ [(la, fa), (lb, fb)]) i
  | [], i => by
    show (if i < la + lb then cat2 la fa fb i else 0) = if i < la then fa i else if i - la < lb then fb (i - la) else 0
    unfold cat2
    by_cases h1 : i < la
    · rw [if_pos (by omega), if_pos h1, if_pos h1]
    · rw [if_neg h1, if_neg h1]
      by_cases h2 : i < la + lb
      · rw [if_pos h2, if_pos (by omega)]
      · rw [if_neg h2, if_neg (by omega)]
  | x :: M, i => by
    show (if i < x.1 then x.2 i else joinF (M ++ _) (i - x.1)) = if i < x.1 then x.2 i else joinF (M ++ _) (i - x.1)
    rw [join_cat la lb fa fb M]
end Go.Proofs.YtacokkedomjgpaaGreatDoor

namespace Go.Proofs.YtacokkedomjgpaaGreatDoor
open Go.RowKit
section
variable {P : Program} {Q : Exit → Act → World → Prop}
theorem putg_ {a : Act} {d t : Nat} {v : Value} (hd : d < a.tmps.size) : (a.put (some d) v).tmps.getD t undef = if t = d then v else a.tmps.getD t undef := by
  unfold Act.put
  simp only [Array.getD_eq_getD_getElem?, Array.getElem?_setIfInBounds]
  by_cases e : d = t
  · subst e; simp [hd]
  · rw [if_neg e, if_neg (fun h => e h.symm)]
theorem wp_val {o : Oper} {a : Act} {w w' : World} {K : Act → World → Prop} {v : Value} (h : (execOp a.eval o).run P w = .ok (.value v) w') (hk : K (a.put o.dst v) w') : o.wp P a w K Q := by
  unfold Oper.wp; rw [h]; exact hk
def Grw (w w' : World) : Prop := ∀ (g : Nat) (c : Array Value) (t : TypeId) (fr : Nat × Nat), w.heap[g]? = some (Obj.cells c t fr) → ∃ fr' : Nat × Nat, w'.heap[g]? = some (Obj.cells c t fr')
theorem grw_b {w w' : World} (h : Below w.heap.size w w') : Grw w w' := fun _ _ _ fr hg => ⟨fr, (h.block _ (Array.getElem?_eq_some_iff.1 hg).1).trans hg⟩
theorem wp_rel {l : List Oper} {id : Nat} (W : World) (a0 : Act) (w0 : World) (Rr : Nat → Value → World → Prop) (dd : Nat → Nat) (hm : P.follows .mixedOrders = true) (hac : acycB l.toArray = true) (n : Nat) (hn : l.length = n) (hdB : l.map (·.dst) = (List.range n).map fun i => some (dd i))
    (hinj : ∀ i j, i < n → j < n → dd i = dd j → i = j) (hsz : ∀ i, i < n → dd i < a0.tmps.size) (mono : ∀ i v w w', Rr i v w → Grw w w' → Rr i v w') (hw0 : Below W.heap.size W w0) (hdf : a0.defers = [])
    (hop : ∀ i o, l[i]? = some o → ∀ (a : Act) (w : World), Below W.heap.size W w → (∀ t, (∀ j, j < n → dd j ≠ t) → a.tmps.getD t undef = a0.tmps.getD t undef) → (∀ e ∈ o.after, Region.binds .any e = true → Rr e.on (a.tmps.getD (dd e.on) undef) w) → ∀ K : Act → World → Prop, (∀ v w', Rr i v w' → Grw w w' → Below W.heap.size W w' → K (a.put o.dst v) w') → Region.wanted o (yielded l.toArray a.tmps) = true ∧ o.wp P a w K Q)
    (hend : ∀ (a : Act) (w : World), a.defers = [] → a.tmps.size = a0.tmps.size → Below W.heap.size W w → (∀ i, i < n → Rr i (a.tmps.getD (dd i) undef) w) → Q .normal a w) : (Code.region id l.toArray true).wp P Q a0 w0 := by
  subst hn
  have hdst : ∀ i o, l[i]? = some o → o.dst = some (dd i) := by
    intro i o ho
    have h := congrArg (·[i]?) hdB
    simp only [List.getElem?_map, ho, Option.map_some] at h
    rw [List.getElem?_range (List.getElem?_eq_some_iff.1 ho).1, Option.map_some] at h
    exact Option.some.inj h
  have hacyc := acyc_of (ops := l.toArray) hac
  refine wp_region_any hm (wpAny_sym hacyc (fun D a w => a.defers = [] ∧ a.tmps.size = a0.tmps.size ∧ Below W.heap.size W w ∧ (∀ t, (∀ j, j < l.length → dd j ≠ t) → a.tmps.getD t undef = a0.tmps.getD t undef) ∧ ∀ i, i < l.length → D i = true → Rr i (a.tmps.getD (dd i) undef) w) ?_ ?_ l.toArray.size _ a0 _ (by simp) ?_ ?_)
  · rintro D a w ⟨h1, h2, h3, h4, h5⟩ i o ho hD hdep K hK
    have ho' : l[i]? = some o := by simpa using ho
    have hil : i < l.length := (List.getElem?_eq_some_iff.1 ho').1
    left
    refine hop i o ho' a w h3 h4 (fun e he hb => h5 e.on (by have := hacyc i o ho e he hb; omega) (hdep e he hb)) K fun v w' hR hb hbW => hK _ _ ?_
    have hdi : dd i < a.tmps.size := by rw [h2]; exact hsz i hil
    rw [hdst i o ho']
    refine ⟨h1, by unfold Act.put; simpa using h2, hbW, fun t ht => ?_, fun j hj hDj => ?_⟩
    · rw [putg_ hdi, if_neg (fun e => ht i hil e.symm)]; exact h4 t ht
    · rw [putg_ hdi]
      by_cases e : dd j = dd i
      · rw [if_pos e, hinj j i hj hil e]; exact hR
      · rw [if_neg e]
        have : j ≠ i := fun e2 => e (by rw [e2])
        refine mono j _ w w' (h5 j hj ?_) hb
        unfold add1 at hDj
        rwa [if_neg this] at hDj
  · rintro D a w ⟨h1, h2, h3, h4, h5⟩ hall
    exact hend a w h1 h2 h3 fun i hi => h5 i hi (hall i (by simpa using hi))
  · exact Nat.le_trans (List.length_filter_le _ _) (by simp)
  · have e : ∀ i, (Array.replicate l.toArray.size false).getD i false = false := by
      intro i
      by_cases h : i < l.toArray.size <;> simp [Array.getD]
    refine ⟨hdf, rfl, hw0.drew, fun _ _ => rfl, fun i _ hi => ?_⟩
    replace hi : (Array.replicate l.toArray.size false).getD i false = true := hi
    rw [e] at hi; cases hi
theorem s_raw {fn : Func} {a : Act} {w : World} {R : Ending → World → Prop} {t : Nat} {v : Value} (hd : a.defers = []) (ht : t < a.tmps.size) (hv : a.tmps.getD t undef = v) (hr : fn.results = #[.tmp t]) (hR : R (.returned v) w) : bodyPost P fn R .ret a w := by
  refine ⟨hd, v, ?_, hR⟩
  have htm : a.tmps[t]? = some v := by
    simp only [Array.getD, ht] at hv
    simp at hv
    simp [ht, hv]
  simp only [results, hr]
  simp [htm]
end
end Go.Proofs.YtacokkedomjgpaaGreatDoor

namespace Go.Proofs.YtacokkedomjgpaaGreatDoor
open Go.RowKit Lo
theorem kept0 {w w' : World} {g : Nat} {c : Array Value} {t : TypeId} {fr : Nat × Nat} (hb : Below w.heap.size w w') (h : w.heap[g]? = some (.cells c t fr)) : w'.heap[g]? = some (.cells c t fr) := (hb.block _ (Array.getElem?_eq_some_iff.1 h).1).trans h
theorem kept {w w' : World} {g : Nat} {c : Array Value} {t : TypeId} (hb : Grw w w') (h : ∃ fr, w.heap[g]? = some (Obj.cells c t fr)) : ∃ fr, w'.heap[g]? = some (Obj.cells c t fr) := by
  obtain ⟨fr, h⟩ := h
  exact hb g c t fr h
theorem conv_b {w : World} {g n : Nat} {C : Array Value} {fr : Nat × Nat} (h : w.heap[g]? = some (Obj.cells C 5 fr)) : (convert 31 31 (.slice (some ⟨g, 0, none⟩) n n)).run Tryz.prog w = .ok (.slice (some ⟨g, 0, none⟩) n n) (w.freeze ⟨g, C.size, none⟩ 1) := by
  have hsh : w.shape? g = some (5, C.size) := by unfold World.shape?; rw [h]
  simp [convert, run_underlying Tryz.underlying31, run_underlying Tryz.underlying5, markStringish, hsh]
theorem frz_g (w : World) (g k : Nat) : Grw w (w.freeze ⟨g, k, none⟩ 1) := by
  intro b c t fr h
  unfold World.freeze
  rw [if_neg (by decide)]
  simp only [Array.getElem?_modify]
  by_cases e : g = b
  · rw [if_pos e, h]; exact ⟨_, rfl⟩
  · rw [if_neg e]; exact ⟨fr, h⟩
theorem frz_b {B : Nat} {W w : World} {g : Nat} (k : Nat) (hb : Below B W w) (hg : B ≤ g) : Below B W (w.freeze ⟨g, k, none⟩ 1) := by
  have e : w.freeze ⟨g, k, none⟩ 1 = { w with heap := (w.freeze ⟨g, k, none⟩ 1).heap } := by unfold World.freeze; rw [if_neg (by decide)]
  have hs : (w.freeze ⟨g, k, none⟩ 1).heap.size = w.heap.size := by unfold World.freeze; rw [if_neg (by decide)]; simp
  refine ⟨by rw [e]; exact hb.os, by rw [e]; exact hb.tape, by rw [e]; exact hb.output, by rw [hs]; exact hb.size, fun b hbb => ?_⟩
  rw [← hb.block b hbb]
  unfold World.freeze
  rw [if_neg (by decide)]
  simp only [Array.getElem?_modify]
  rw [if_neg (by omega)]
def dA (i : Nat) : Nat := if i = 22 then 0 else i + 4
def RA (q n0 : Nat) : Nat → Value → World → Prop
  | 0, v, _ => v = .pointer (some ⟨q, 0, none⟩)
  | 1, v, _ => v = .int .u8 (59 : Nat)
  | 2, v, _ => v = .bool true
  | 3, v, _ => v = .bool true
  | 4, v, _ => v = .pointer (some ⟨q, 1, none⟩)
  | 5, v, _ => v = .int .u8 (106 : Nat)
  | 6, v, _ => v = .bool true
  | 7, v, _ => v = .bool true
  | 8, v, _ => v = .bool true
  | 9, v, _ => v = .agg (ck (kp (pub fun _ => 0)))
  | 10, v, _ => v = .agg (ck fun _ => 0)
  | 11, v, w => ∃ g, v = .slice (some ⟨g, 0, none⟩) 1 1 ∧ n0 ≤ g ∧ (∃ fr, w.heap[g]? = some (Obj.cells #[.int .u8 97] 5 fr))
  | 12, v, w => ∃ g, v = .slice (some ⟨g, 0, none⟩) 1 1 ∧ n0 ≤ g ∧ (∃ fr, w.heap[g]? = some (Obj.cells #[.int .u8 97] 5 fr))
  | 13, v, w => ∃ g, v = .slice (some ⟨g, 0, none⟩) 1 1 ∧ n0 ≤ g ∧ (∃ fr, w.heap[g]? = some (Obj.cells #[.int .u8 98] 5 fr))
  | 14, v, w => ∃ g, v = .slice (some ⟨g, 0, none⟩) 1 1 ∧ n0 ≤ g ∧ (∃ fr, w.heap[g]? = some (Obj.cells #[.int .u8 98] 5 fr))
  | 15, v, w => ∃ g g1 g2, v = .slice (some ⟨g, 0, none⟩) 2 2 ∧ (∃ fr, w.heap[g]? = some (Obj.cells #[.slice (some ⟨g1, 0, none⟩) 1 1, .slice (some ⟨g2, 0, none⟩) 1 1] 31 fr)) ∧ (∃ fr, w.heap[g1]? = some (Obj.cells #[.int .u8 97] 5 fr)) ∧ (∃ fr, w.heap[g2]? = some (Obj.cells #[.int .u8 98] 5 fr))
  | 16, v, _ => v = .agg (cw (sgn (fun _ => 0) [(1, fun _ => 97), (1, fun _ => 98)]))
  | 17, v, w => ∃ g, v = .slice (some ⟨g, 0, none⟩) 2 2 ∧ n0 ≤ g ∧ (∃ fr, w.heap[g]? = some (Obj.cells #[.int .u8 97, .int .u8 98] 5 fr))
  | 18, v, w => ∃ g, v = .slice (some ⟨g, 0, none⟩) 2 2 ∧ n0 ≤ g ∧ (∃ fr, w.heap[g]? = some (Obj.cells #[.int .u8 97, .int .u8 98] 5 fr))
  | 19, v, w => ∃ g g1, v = .slice (some ⟨g, 0, none⟩) 1 1 ∧ (∃ fr, w.heap[g]? = some (Obj.cells #[.slice (some ⟨g1, 0, none⟩) 2 2] 31 fr)) ∧ (∃ fr, w.heap[g1]? = some (Obj.cells #[.int .u8 97, .int .u8 98] 5 fr))
  | 20, v, _ => v = .bool true
  | 21, v, _ => v = .bool true
  | 22, v, _ => v = .bool true
  | _, _, _ => True
theorem ra_mono (q n0 : Nat) : ∀ i v w w', RA q n0 i v w → Grw w w' → RA q n0 i v w'
  | 0, _, _, _, h, _ => h
  | 1, _, _, _, h, _ => h
  | 2, _, _, _, h, _ => h
  | 3, _, _, _, h, _ => h
  | 4, _, _, _, h, _ => h
  | 5, _, _, _, h, _ => h
  | 6, _, _, _, h, _ => h
  | 7, _, _, _, h, _ => h
  | 8, _, _, _, h, _ => h
  | 9, _, _, _, h, _ => h
  | 10, _, _, _, h, _ => h
  | 11, v, w, w', h, hb => by obtain ⟨g, e, hn, h1⟩ := h; exact ⟨g, e, hn, kept hb h1⟩
  | 12, v, w, w', h, hb => by obtain ⟨g, e, hn, h1⟩ := h; exact ⟨g, e, hn, kept hb h1⟩
  | 13, v, w, w', h, hb => by obtain ⟨g, e, hn, h1⟩ := h; exact ⟨g, e, hn, kept hb h1⟩
  | 14, v, w, w', h, hb => by obtain ⟨g, e, hn, h1⟩ := h; exact ⟨g, e, hn, kept hb h1⟩
  | 15, v, w, w', h, hb => by obtain ⟨g, g1, g2, e, h1, h2, h3⟩ := h; exact ⟨g, g1, g2, e, kept hb h1, kept hb h2, kept hb h3⟩
  | 16, _, _, _, h, _ => h
  | 17, v, w, w', h, hb => by obtain ⟨g, e, hn, h1⟩ := h; exact ⟨g, e, hn, kept hb h1⟩
  | 18, v, w, w', h, hb => by obtain ⟨g, e, hn, h1⟩ := h; exact ⟨g, e, hn, kept hb h1⟩
  | 19, v, w, w', h, hb => by obtain ⟨g, g1, e, h1, h2⟩ := h; exact ⟨g, g1, e, kept hb h1, kept hb h2⟩
  | 20, _, _, _, h, _ => h
  | 21, _, _, _, h, _ => h
  | 22, _, _, _, h, _ => h
  | _ + 23, _, _, _, _, _ => trivial
theorem ev2 {a : Act} {s t : Nat} {x y : Value} (h : a.tmps.getD s undef = x) (k : a.tmps.getD t undef = y) : #[Operand.tmp s, .tmp t].map a.eval = #[x, y] := by
  simp only [List.map_toArray, List.map_cons, List.map_nil, Act.eval, h, k]
theorem ev3 {a : Act} {s t u : Nat} {x y z : Value} (h : a.tmps.getD s undef = x) (k : a.tmps.getD t undef = y) (l : a.tmps.getD u undef = z) : #[Operand.tmp s, .tmp t, .tmp u].map a.eval = #[x, y, z] := by
  simp only [List.map_toArray, List.map_cons, List.map_nil, Act.eval, h, k, l]
theorem al1 (w : World) (o : Obj) : Below w.heap.size w (w.alloc o) := (Below.refl _ _).alloc (Nat.le_refl _) _
theorem bs_1 {w : World} {g x : Nat} {fr : Nat × Nat} (hx : x < 256) (h : w.heap[g]? = some (.cells #[.int .u8 (x : Nat)] 5 fr)) : Bs w (some ⟨g, 0, none⟩) 1 (fun _ => x) := ⟨fun _ => hx, fun _ => ⟨g, 0, rfl, fun i hi => by
  obtain rfl : i = 0 := by omega
  rw [cell_of_row _ _ _ _ _ _ h]; rfl⟩⟩
def ab2 : Nat → Nat := cat2 1 (fun _ => 97) (fun _ => 98)
theorem ab2_lt (i : Nat) : ab2 i < 256 := cat2_lt (fun _ => by decide) (fun _ => by decide) i
theorem wnt {ops : Array Oper} {a : Act} {o : Oper} {j d : Nat} (hg : o.guard = some (j, true)) (hd : (ops[j]?).bind (·.dst) = some d) (h : a.tmps.getD d undef = .bool true) : Region.wanted o (yielded ops a.tmps) = true := by
  have ht : a.tmps[d]? = some (.bool true) := by
    rw [Array.getD_eq_getD_getElem?] at h
    cases hx : a.tmps[d]? with
    | none => rw [hx] at h; cases h
    | some x => rw [hx] at h; rw [← h]; rfl
  unfold Region.wanted yielded
  rw [hg]
  simp only [hd, Option.bind_some, ht]
  rfl
theorem bs_2 {w : World} {g : Nat} {fr : Nat × Nat} (h : w.heap[g]? = some (.cells #[.int .u8 97, .int .u8 98] 5 fr)) : Bs w (some ⟨g, 0, none⟩) 2 ab2 := ⟨ab2_lt, fun _ => ⟨g, 0, rfl, fun i hi => by
  have : i = 0 ∨ i = 1 := by omega
  rcases this with rfl | rfl <;> rw [cell_of_row _ _ _ _ _ _ h] <;> rfl⟩⟩
theorem inl {w : World} {g : Nat} {c : Array Value} {t : TypeId} {fr : Nat × Nat} (h : w.heap[g]? = some (.cells c t fr)) : ∀ p, (some ⟨g, 0, none⟩ : Option Addr) = some p → p.block < w.heap.size := fun p e => by cases e; exact (Array.getElem?_eq_some_iff.1 h).1
theorem ps_1f {w : World} {g : Nat} {x : Pt} {a : Option Addr} {ca : Nat} {t : TypeId} {fr : Nat × Nat} (h : w.heap[g]? = some (.cells #[.slice a x.1 ca] t fr)) (ha : Bs w a x.1 x.2) (hca : x.1 ≤ ca) (hla : ∀ p, a = some p → p.block < w.heap.size) : PsAt w (some ⟨g, 0, none⟩) [x] := fun _ =>
  ⟨g, 0, rfl, fun i hi => by
    have hc : i = 0 := by simp at hi; omega
    subst hc
    exact ⟨a, ca, by rw [cell_of_row _ _ _ _ _ _ h]; rfl, ha, hca, hla⟩⟩
theorem ps_2f {w : World} {g : Nat} {x y : Pt} {a b : Option Addr} {ca cb : Nat} {t : TypeId} {fr : Nat × Nat} (h : w.heap[g]? = some (.cells #[.slice a x.1 ca, .slice b y.1 cb] t fr)) (ha : Bs w a x.1 x.2) (hca : x.1 ≤ ca) (hla : ∀ p, a = some p → p.block < w.heap.size) (hb : Bs w b y.1 y.2) (hcb : y.1 ≤ cb) (hlb : ∀ p, b = some p → p.block < w.heap.size) : PsAt w (some ⟨g, 0, none⟩) [x, y] := fun _ =>
  ⟨g, 0, rfl, fun i hi => by
    have hc : i = 0 ∨ i = 1 := by simp at hi; omega
    rcases hc with rfl | rfl
    · exact ⟨a, ca, by rw [cell_of_row _ _ _ _ _ _ h]; rfl, ha, hca, hla⟩
    · exact ⟨b, cb, by rw [cell_of_row _ _ _ _ _ _ h]; rfl, hb, hcb, hlb⟩⟩
theorem sign_ab {w : World} {g g1 g2 : Nat} (hg : Gl w) (h : (∃ fr, w.heap[g]? = some (Obj.cells #[.slice (some ⟨g1, 0, none⟩) 1 1, .slice (some ⟨g2, 0, none⟩) 1 1] 31 fr))) (h1 : (∃ fr, w.heap[g1]? = some (Obj.cells #[.int .u8 97] 5 fr))) (h2 : (∃ fr, w.heap[g2]? = some (Obj.cells #[.int .u8 98] 5 fr))) : Calls Tryz.prog 8 #[.agg (ck fun _ => 0), .slice (some ⟨g, 0, none⟩) 2 2] w fun e w' => e = .returned (.agg (cw (sgn (fun _ => 0) [(1, fun _ => 97), (1, fun _ => 98)]))) ∧ Below w.heap.size w w' := by
  obtain ⟨_, h⟩ := h
  obtain ⟨_, h1⟩ := h1
  obtain ⟨_, h2⟩ := h2
  exact sign_d (L := [(1, fun _ => 97), (1, fun _ => 98)]) hg (fun _ => by decide) (ps_2f (x := (1, fun _ => 97)) (y := (1, fun _ => 98)) h (bs_1 (by decide) h1) (Nat.le_refl _) (inl h1) (bs_1 (by decide) h2) (Nat.le_refl _) (inl h2)) (fun x hx i => by
    rcases List.mem_cons.1 hx with rfl | hx
    · show 97 < 256; decide
    · rcases List.mem_cons.1 hx with rfl | hx
      · show 98 < 256; decide
      · cases hx) (by simp [lenS]) (by simp)
theorem right_ab {w : World} {g g1 : Nat} (hg : Gl w) (h : (∃ fr, w.heap[g]? = some (Obj.cells #[.slice (some ⟨g1, 0, none⟩) 2 2] 31 fr))) (h1 : (∃ fr, w.heap[g1]? = some (Obj.cells #[.int .u8 97, .int .u8 98] 5 fr))) : Calls Tryz.prog 7 #[.agg (ck (kp (pub fun _ => 0))), .agg (cw (sgn (fun _ => 0) [(1, fun _ => 97), (1, fun _ => 98)])), .slice (some ⟨g, 0, none⟩) 1 1] w fun e w' => e = .returned (.bool true) ∧ Below w.heap.size w w' := by
  obtain ⟨_, h⟩ := h
  obtain ⟨_, h1⟩ := h1
  exact right_d (K := [(2, ab2)]) hg (ps_1f (x := (2, ab2)) h (bs_2 h1) (Nat.le_refl _) (inl h1)) (fun x hx i => by
    rcases List.mem_cons.1 hx with rfl | hx
    · exact ab2_lt i
    · cases hx) (by simp [lenS]) (by simp) (by simp [lenS]) (fun M i => join_cat 1 1 (fun _ => 97) (fun _ => 98) M i)
set_option maxHeartbeats 4000000 in
set_option maxRecDepth 100000 in
theorem alive_c {W0 : World} (hg : Gl W0) : Calls Tryz.prog 4 #[] W0 fun e w' => e = .returned (.bool true) ∧ Below W0.heap.size W0 w' := by
  refine s_in Tryz.func4 Tryz.ntmps4 rfl [] ?_
  intro β a h
  refine sym_seq ?_
  refine St.r0 h [(0, .inl (.bool false))] [] ?_ ?_
  · exact oz (k_mv (.inr rfl) rfl) <|
    ok_nil
  clear h; intro β a w h
  refine sym_then ?_
  refine sym_seq ?_
  refine St.rg h [(2, .inl (.agg (ck (fun _ => 0)))), (3, .inl (.agg (ck (kp (pub fun _ => 0))))), (1, .inr (0, pt 0))] [(ck (fun _ => 0), 23)] [(0, ck (kp (pub fun _ => 0)))] [nn, nn, eN 0, eS 0] ?_ ?_
  · exact oc (k_bu #[] (.agg (ck (fun _ => 0))) bdK0 rfl rfl) <|
    oc (k_cw 5 #[.agg (ck (fun _ => 0))] (.agg (ck (kp (pub fun _ => 0)))) (fun w hk => public_d (gl_b hg (KW.below hk)) (fun _ => by decide)) rfl rfl) <|
    oc (k_al 0 alK rfl rfl) <|
    oc (k_st 0 0 (.agg (ck (kp (pub fun _ => 0)))) (c := ck (fun _ => 0)) (n := ck (kp (pub fun _ => 0))) (stK (F := (kp (pub fun _ => 0))) (c := ck (fun _ => 0)) 23 (ck_size _)) rfl rfl) <|
    ok_nil
  clear h; intro β a w h
  refine sym_then ?_
  refine sym_seq ?_
  replace h := St.cs h (s' := [.inl (.bool false), .inr (0, pt 0), .inl (.agg (ck (fun _ => 0))), .inl (.agg (ck (kp (pub fun _ => 0)))), uu, uu, uu, uu, uu, uu, uu, uu, uu, uu, uu, uu, uu, uu, uu, uu, uu, uu, uu, uu, uu, uu]) (m' := [(ck (kp (pub fun _ => 0)), 23)]) (by kernel_rfl) (by kernel_rfl)
  obtain rfl : a = { tmps := #[.bool false, fv (pt 0) (β 0), .agg (ck (fun _ => 0)), .agg (ck (kp (pub fun _ => 0))), undef, undef, undef, undef, undef, undef, undef, undef, undef, undef, undef, undef, undef, undef, undef, undef, undef, undef, undef, undef, undef, undef], defers := [] } := h.tm
  have hq := h.row 0 _ rfl
  have hb0 := KW.below h.bel
  have hgW : ∀ u, Below w.heap.size w u → Gl u := fun u hu => gl_b (gl_b hg hb0) hu
  clear h
  generalize β 0 = q at *
  refine wp_rel w _ w (RA q w.heap.size) dA (by kernel_rfl) (by kernel_rfl) 23 (by kernel_rfl) (by kernel_rfl) ?_ ?_ (ra_mono q _) (Below.refl _ _) rfl ?_ ?_
  · intro i j hi hj e; unfold dA at e; split at e <;> split at e <;> omega
  · intro i hi; show dA i < 26; unfold dA; split <;> omega
  · intro i o ho
    match i, ho with
    | 0, ho =>
      obtain rfl := Option.some.inj ho
      intro a w hbw hsl hdep K hK
      refine ⟨rfl, ?_⟩
      have hp1 : a.tmps.getD 1 undef = .pointer (some ⟨q, 0, none⟩) := hsl 1 (by intro j hj; unfold dA; split <;> omega)
      refine wp_val (w' := w) (v := .pointer (some ⟨q, 0, none⟩)) (by simp only [execOp, Act.eval, hp1]; kernel_rfl) ?_
      exact hK _ _ rfl (grw_b (Below.refl _ _)) hbw
    | 1, ho =>
      obtain rfl := Option.some.inj ho
      intro a w hbw hsl hdep K hK
      refine ⟨rfl, ?_⟩
      have e := hdep ⟨0, .data⟩ (by simp) rfl
      have hqw := kept0 hbw hq
      refine wp_val (w' := w) (v := .int .u8 (59 : Nat)) (by have hl := ld_k (F := (kp (pub fun _ => 0))) (i := 0) (t0 := 23) (by decide) w q hqw; rw [pub_zero.1] at hl; simp only [execOp, Act.eval]; rw [show a.tmps.getD 4 undef = _ from e]; simp only [Sem.run_bind, hl, Result.andThen_ok, Sem.run_pure]) ?_
      exact hK _ _ rfl (grw_b (Below.refl _ _)) hbw
    | 2, ho =>
      obtain rfl := Option.some.inj ho
      intro a w hbw hsl hdep K hK
      refine ⟨rfl, ?_⟩
      have e := hdep ⟨1, .data⟩ (by simp) rfl
      refine wp_val (w' := w) (v := .bool true) (by simp only [execOp, Act.eval]; rw [show a.tmps.getD 5 undef = _ from e]; kernel_rfl) ?_
      exact hK _ _ rfl (grw_b (Below.refl _ _)) hbw
    | 3, ho =>
      obtain rfl := Option.some.inj ho
      intro a w hbw hsl hdep K hK
      refine ⟨rfl, ?_⟩
      have e := hdep ⟨2, .data⟩ (by simp) rfl
      refine wp_val (w' := w) (v := .bool true) (by simp only [execOp, Act.eval]; rw [show a.tmps.getD 6 undef = _ from e]; kernel_rfl) ?_
      exact hK _ _ rfl (grw_b (Below.refl _ _)) hbw
    | 4, ho =>
      obtain rfl := Option.some.inj ho
      intro a w hbw hsl hdep K hK
      have hgu := hdep ⟨3, .guard⟩ (by simp) rfl
      refine ⟨wnt (j := 3) (d := 7) rfl rfl hgu, ?_⟩
      have hp1 : a.tmps.getD 1 undef = .pointer (some ⟨q, 0, none⟩) := hsl 1 (by intro j hj; unfold dA; split <;> omega)
      refine wp_val (w' := w) (v := .pointer (some ⟨q, 1, none⟩)) (by simp only [execOp, Act.eval, hp1]; kernel_rfl) ?_
      exact hK _ _ rfl (grw_b (Below.refl _ _)) hbw
    | 5, ho =>
      obtain rfl := Option.some.inj ho
      intro a w hbw hsl hdep K hK
      have hgu := hdep ⟨3, .guard⟩ (by simp) rfl
      refine ⟨wnt (j := 3) (d := 7) rfl rfl hgu, ?_⟩
      have e := hdep ⟨4, .data⟩ (by simp) rfl
      have hqw := kept0 hbw hq
      refine wp_val (w' := w) (v := .int .u8 (106 : Nat)) (by have hl := ld_k (F := (kp (pub fun _ => 0))) (i := 1) (t0 := 23) (by decide) w q hqw; rw [pub_zero.2] at hl; simp only [execOp, Act.eval]; rw [show a.tmps.getD 8 undef = _ from e]; simp only [Sem.run_bind, hl, Result.andThen_ok, Sem.run_pure]) ?_
      exact hK _ _ rfl (grw_b (Below.refl _ _)) hbw
    | 6, ho =>
      obtain rfl := Option.some.inj ho
      intro a w hbw hsl hdep K hK
      have hgu := hdep ⟨3, .guard⟩ (by simp) rfl
      refine ⟨wnt (j := 3) (d := 7) rfl rfl hgu, ?_⟩
      have e := hdep ⟨5, .data⟩ (by simp) rfl
      refine wp_val (w' := w) (v := .bool true) (by simp only [execOp, Act.eval]; rw [show a.tmps.getD 9 undef = _ from e]; kernel_rfl) ?_
      exact hK _ _ rfl (grw_b (Below.refl _ _)) hbw
    | 7, ho =>
      obtain rfl := Option.some.inj ho
      intro a w hbw hsl hdep K hK
      refine ⟨rfl, ?_⟩
      have e := hdep ⟨3, .data⟩ (by simp) rfl
      have e2 := hdep ⟨6, .data⟩ (by simp) rfl
      refine wp_val (w' := w) (v := .bool true) (by simp only [execOp, Act.eval]; rw [show a.tmps.getD 7 undef = _ from e, show a.tmps.getD 10 undef = _ from e2]; kernel_rfl) ?_
      exact hK _ _ rfl (grw_b (Below.refl _ _)) hbw
    | 8, ho =>
      obtain rfl := Option.some.inj ho
      intro a w hbw hsl hdep K hK
      refine ⟨rfl, ?_⟩
      have e := hdep ⟨7, .data⟩ (by simp) rfl
      refine wp_val (w' := w) (v := .bool true) (by simp only [execOp, Act.eval]; rw [show a.tmps.getD 11 undef = _ from e]; kernel_rfl) ?_
      exact hK _ _ rfl (grw_b (Below.refl _ _)) hbw
    | 9, ho =>
      obtain rfl := Option.some.inj ho
      intro a w hbw hsl hdep K hK
      have hgu := hdep ⟨8, .guard⟩ (by simp) rfl
      refine ⟨wnt (j := 8) (d := 12) rfl rfl hgu, ?_⟩
      have hp1 : a.tmps.getD 1 undef = .pointer (some ⟨q, 0, none⟩) := hsl 1 (by intro j hj; unfold dA; split <;> omega)
      have hqw := kept0 hbw hq
      refine wp_val (w' := w) (v := .agg (ck (kp (pub fun _ => 0)))) (by have hl := ldK (b := (kp (pub fun _ => 0))) 23 w q hqw; simp only [execOp, Act.eval, hp1, Sem.run_bind, hl, Result.andThen_ok, Sem.run_pure]) ?_
      exact hK _ _ rfl (grw_b (Below.refl _ _)) hbw
    | 10, ho =>
      obtain rfl := Option.some.inj ho
      intro a w hbw hsl hdep K hK
      have hgu := hdep ⟨8, .guard⟩ (by simp) rfl
      refine ⟨wnt (j := 8) (d := 12) rfl rfl hgu, ?_⟩
      refine wp_val (w' := w) (v := .agg (ck fun _ => 0)) (by have hb := bdK0 w; unfold execOp; simp only [Sem.run_bind]; first | (rw [show (#[] : Array (Nat × Operand)).map _ = #[] from rfl, hb]; rfl) | (simp only [Array.map_empty, hb, Result.andThen_ok, Sem.run_pure]) | (simp [hb])) ?_
      exact hK _ _ rfl (grw_b (Below.refl _ _)) hbw
    | 11, ho =>
      obtain rfl := Option.some.inj ho
      intro a w hbw hsl hdep K hK
      have hgu := hdep ⟨8, .guard⟩ (by simp) rfl
      refine ⟨wnt (j := 8) (d := 12) rfl rfl hgu, ?_⟩
      refine wp_val (w' := w.alloc (.cells #[.int .u8 97] 5)) (v := .slice (some ⟨w.heap.size, 0, none⟩) 1 1) (by simp only [execOp, Act.eval]; kernel_rfl) ?_
      exact hK _ _ (⟨_, rfl, hbw.size, _, (MapKept.heap_alloc w _).1⟩) (grw_b (al1 _ _)) (hbw.trans ((al1 _ _).mono hbw.size))
    | 12, ho =>
      obtain rfl := Option.some.inj ho
      intro a w hbw hsl hdep K hK
      have hgu := hdep ⟨8, .guard⟩ (by simp) rfl
      refine ⟨wnt (j := 8) (d := 12) rfl rfl hgu, ?_⟩
      have e0 := hdep ⟨11, .data⟩ (by simp) rfl
      obtain ⟨g, e, hn, fr, hg1⟩ := e0
      have hc : (convert 31 31 (.slice (some ⟨g, 0, none⟩) 1 1)).run Tryz.prog w = .ok (.slice (some ⟨g, 0, none⟩) 1 1) (w.freeze ⟨g, 1, none⟩ 1) := conv_b (n := 1) hg1
      refine wp_val (w' := w.freeze ⟨g, 1, none⟩ 1) (v := .slice (some ⟨g, 0, none⟩) 1 1) (by simp only [execOp, Act.eval]; rw [show a.tmps.getD 15 undef = _ from e]; simp only [Sem.run_bind, hc, Result.andThen_ok, Sem.run_pure]) ?_
      exact hK _ _ ⟨g, rfl, hn, kept (frz_g _ _ _) ⟨_, hg1⟩⟩ (frz_g _ _ _) (frz_b _ hbw hn)
    | 13, ho =>
      obtain rfl := Option.some.inj ho
      intro a w hbw hsl hdep K hK
      have hgu := hdep ⟨8, .guard⟩ (by simp) rfl
      refine ⟨wnt (j := 8) (d := 12) rfl rfl hgu, ?_⟩
      refine wp_val (w' := w.alloc (.cells #[.int .u8 98] 5)) (v := .slice (some ⟨w.heap.size, 0, none⟩) 1 1) (by simp only [execOp, Act.eval]; kernel_rfl) ?_
      exact hK _ _ (⟨_, rfl, hbw.size, _, (MapKept.heap_alloc w _).1⟩) (grw_b (al1 _ _)) (hbw.trans ((al1 _ _).mono hbw.size))
    | 14, ho =>
      obtain rfl := Option.some.inj ho
      intro a w hbw hsl hdep K hK
      have hgu := hdep ⟨8, .guard⟩ (by simp) rfl
      refine ⟨wnt (j := 8) (d := 12) rfl rfl hgu, ?_⟩
      have e0 := hdep ⟨13, .data⟩ (by simp) rfl
      obtain ⟨g, e, hn, fr, hg1⟩ := e0
      have hc : (convert 31 31 (.slice (some ⟨g, 0, none⟩) 1 1)).run Tryz.prog w = .ok (.slice (some ⟨g, 0, none⟩) 1 1) (w.freeze ⟨g, 1, none⟩ 1) := conv_b (n := 1) hg1
      refine wp_val (w' := w.freeze ⟨g, 1, none⟩ 1) (v := .slice (some ⟨g, 0, none⟩) 1 1) (by simp only [execOp, Act.eval]; rw [show a.tmps.getD 17 undef = _ from e]; simp only [Sem.run_bind, hc, Result.andThen_ok, Sem.run_pure]) ?_
      exact hK _ _ ⟨g, rfl, hn, kept (frz_g _ _ _) ⟨_, hg1⟩⟩ (frz_g _ _ _) (frz_b _ hbw hn)
    | 15, ho =>
      obtain rfl := Option.some.inj ho
      intro a w hbw hsl hdep K hK
      have hgu := hdep ⟨8, .guard⟩ (by simp) rfl
      refine ⟨wnt (j := 8) (d := 12) rfl rfl hgu, ?_⟩
      have e0 := hdep ⟨12, .data⟩ (by simp) rfl
      have e1 := hdep ⟨14, .data⟩ (by simp) rfl
      obtain ⟨g1, e, -, hg1⟩ := e0
      obtain ⟨g2, e2, -, hg2⟩ := e1
      refine wp_val (w' := w.alloc (.cells #[.slice (some ⟨g1, 0, none⟩) 1 1, .slice (some ⟨g2, 0, none⟩) 1 1] 31)) (v := .slice (some ⟨w.heap.size, 0, none⟩) 2 2) (by simp only [execOp, Act.eval, List.map_toArray, List.map_cons, List.map_nil]; rw [show a.tmps.getD 16 undef = _ from e, show a.tmps.getD 18 undef = _ from e2]; kernel_rfl) ?_
      exact hK _ _ (⟨_, g1, g2, rfl, ⟨_, (MapKept.heap_alloc w _).1⟩, kept (grw_b (al1 _ _)) hg1, kept (grw_b (al1 _ _)) hg2⟩) (grw_b (al1 _ _)) (hbw.trans ((al1 _ _).mono hbw.size))
    | 16, ho =>
      obtain rfl := Option.some.inj ho
      intro a w hbw hsl hdep K hK
      have hgu := hdep ⟨8, .guard⟩ (by simp) rfl
      refine ⟨wnt (j := 8) (d := 12) rfl rfl hgu, ?_⟩
      have e := hdep ⟨10, .data⟩ (by simp) rfl
      have e0 := hdep ⟨15, .data⟩ (by simp) rfl
      obtain ⟨g, g1, g2, e2, hg, hg1, hg2⟩ := e0
      refine oper_callg 8 #[.tmp 14, .tmp 19] _ rfl #[.agg (ck fun _ => 0), .slice (some ⟨g, 0, none⟩) 2 2] (ev2 e e2) (fun w => by kernel_rfl) (sign_ab (hgW _ hbw) hg hg1 hg2) fun w' hb => ?_
      exact hK _ _ rfl (grw_b hb) (hbw.trans (hb.mono hbw.size))
    | 17, ho =>
      obtain rfl := Option.some.inj ho
      intro a w hbw hsl hdep K hK
      have hgu := hdep ⟨8, .guard⟩ (by simp) rfl
      refine ⟨wnt (j := 8) (d := 12) rfl rfl hgu, ?_⟩
      refine wp_val (w' := w.alloc (.cells #[.int .u8 97, .int .u8 98] 5)) (v := .slice (some ⟨w.heap.size, 0, none⟩) 2 2) (by simp only [execOp, Act.eval]; kernel_rfl) ?_
      exact hK _ _ (⟨_, rfl, hbw.size, _, (MapKept.heap_alloc w _).1⟩) (grw_b (al1 _ _)) (hbw.trans ((al1 _ _).mono hbw.size))
    | 18, ho =>
      obtain rfl := Option.some.inj ho
      intro a w hbw hsl hdep K hK
      have hgu := hdep ⟨8, .guard⟩ (by simp) rfl
      refine ⟨wnt (j := 8) (d := 12) rfl rfl hgu, ?_⟩
      have e0 := hdep ⟨17, .data⟩ (by simp) rfl
      obtain ⟨g, e, hn, fr, hg1⟩ := e0
      have hc : (convert 31 31 (.slice (some ⟨g, 0, none⟩) 2 2)).run Tryz.prog w = .ok (.slice (some ⟨g, 0, none⟩) 2 2) (w.freeze ⟨g, 2, none⟩ 1) := conv_b (n := 2) hg1
      refine wp_val (w' := w.freeze ⟨g, 2, none⟩ 1) (v := .slice (some ⟨g, 0, none⟩) 2 2) (by simp only [execOp, Act.eval]; rw [show a.tmps.getD 21 undef = _ from e]; simp only [Sem.run_bind, hc, Result.andThen_ok, Sem.run_pure]) ?_
      exact hK _ _ ⟨g, rfl, hn, kept (frz_g _ _ _) ⟨_, hg1⟩⟩ (frz_g _ _ _) (frz_b _ hbw hn)
    | 19, ho =>
      obtain rfl := Option.some.inj ho
      intro a w hbw hsl hdep K hK
      have hgu := hdep ⟨8, .guard⟩ (by simp) rfl
      refine ⟨wnt (j := 8) (d := 12) rfl rfl hgu, ?_⟩
      have e0 := hdep ⟨18, .data⟩ (by simp) rfl
      obtain ⟨g1, e, -, hg1⟩ := e0
      refine wp_val (w' := w.alloc (.cells #[.slice (some ⟨g1, 0, none⟩) 2 2] 31)) (v := .slice (some ⟨w.heap.size, 0, none⟩) 1 1) (by simp only [execOp, Act.eval, List.map_toArray, List.map_cons, List.map_nil]; rw [show a.tmps.getD 22 undef = _ from e]; kernel_rfl) ?_
      exact hK _ _ (⟨_, g1, rfl, ⟨_, (MapKept.heap_alloc w _).1⟩, kept (grw_b (al1 _ _)) hg1⟩) (grw_b (al1 _ _)) (hbw.trans ((al1 _ _).mono hbw.size))
    | 20, ho =>
      obtain rfl := Option.some.inj ho
      intro a w hbw hsl hdep K hK
      have hgu := hdep ⟨8, .guard⟩ (by simp) rfl
      refine ⟨wnt (j := 8) (d := 12) rfl rfl hgu, ?_⟩
      have e := hdep ⟨9, .data⟩ (by simp) rfl
      have e1 := hdep ⟨16, .data⟩ (by simp) rfl
      have e0 := hdep ⟨19, .data⟩ (by simp) rfl
      obtain ⟨g, g1, e2, hg, hg1⟩ := e0
      refine oper_callg 7 #[.tmp 13, .tmp 20, .tmp 23] _ rfl #[.agg (ck (kp (pub fun _ => 0))), .agg (cw (sgn (fun _ => 0) [(1, fun _ => 97), (1, fun _ => 98)])), .slice (some ⟨g, 0, none⟩) 1 1] (ev3 e e1 e2) (fun w => by kernel_rfl) (right_ab (hgW _ hbw) hg hg1) fun w' hb => ?_
      exact hK _ _ rfl (grw_b hb) (hbw.trans (hb.mono hbw.size))
    | 21, ho =>
      obtain rfl := Option.some.inj ho
      intro a w hbw hsl hdep K hK
      refine ⟨rfl, ?_⟩
      have e := hdep ⟨8, .data⟩ (by simp) rfl
      have e2 := hdep ⟨20, .data⟩ (by simp) rfl
      refine wp_val (w' := w) (v := .bool true) (by simp only [execOp, Act.eval]; rw [show a.tmps.getD 12 undef = _ from e, show a.tmps.getD 24 undef = _ from e2]; kernel_rfl) ?_
      exact hK _ _ rfl (grw_b (Below.refl _ _)) hbw
    | 22, ho =>
      obtain rfl := Option.some.inj ho
      intro a w hbw hsl hdep K hK
      refine ⟨rfl, ?_⟩
      have e := hdep ⟨21, .data⟩ (by simp) rfl
      refine wp_val (w' := w) (v := .bool true) (by simp only [execOp, Act.eval]; rw [show a.tmps.getD 25 undef = _ from e]; kernel_rfl) ?_
      exact hK _ _ rfl (grw_b (Below.refl _ _)) hbw
    | n + 23, ho => exact absurd ho (by simp)
  · intro a u hd hs hb hall
    refine sym_then ?_
    refine wp_ret ?_
    have hv : a.tmps.getD 0 undef = .bool true := hall 22 (by decide)
    refine s_raw hd (by rw [hs]; show 0 < 26; decide) hv Tryz.results4 ?_
    exact ⟨rfl, hb0.trans (hb.mono hb0.size)⟩
end Go.Proofs.YtacokkedomjgpaaGreatDoor

namespace Go.Proofs.YtacokkedomjgpaaGreatDoor
open Go.RowKit Lo
theorem rpub_p {f : Nat → Nat} (hf : ∀ i, f i < 256) (w : World) : Calls Tryz.prog 6 #[.agg (ck f)] w fun e w' => e = .returned (.agg (ck (kp (pub f)))) ∧ Below w.heap.size w w' := rpub_d hf w
set_option maxHeartbeats 4000000 in
theorem public_walk {f : Nat → Nat} {W0 : World} (hg : Gl W0) (hf : ∀ i, f i < 256) : Calls Tryz.prog 3 #[.agg (ck f)] W0 fun e w' => e = .returned (.bool true) ∧ Below W0.heap.size W0 w' := by
  refine s_in Tryz.func3 Tryz.ntmps3 rfl [.inl (.agg (ck f))] ?_
  intro β a h
  refine sym_seq ?_
  refine St.rg h [(1, .inr (0, pt 0)), (2, .inl (.bool false))] [(ck f, 23)] [] [eN 0] ?_ ?_
  · exact oc (k_bx 0 (.agg (ck f)) (bxK (b := f)) rfl rfl) <|
    oz (k_mv (.inr rfl) rfl) <|
    ok_nil
  clear h; intro β a w h
  refine sym_then ?_
  refine sym_seq ?_
  refine St.r0 h [(3, .inl (.bool true)), (4, .inl (.bool true)), (5, .inl (.agg (ck f))), (6, .inl (.agg (ck (kp (pub f))))), (7, .inl (.agg (ck f))), (8, .inl (.agg (ck (kp (pub f))))), (9, .inl (.bool true)), (10, .inl (.bool true)), (2, .inl (.bool true))] [nn, nn, eR 0, nn, eR 0] ?_ ?_
  · exact oc (k_cw 4 #[] (.bool true) (fun w hk => alive_c (gl_b hg (KW.below hk))) rfl rfl) <|
    oc (k_mv (.inl rfl) rfl) <|
    oc (k_ld 0 0 (.agg (ck f)) (c := ck f) (ldK (b := f) 23) rfl rfl) <|
    oc (k_cw 5 #[.agg (ck f)] (.agg (ck (kp (pub f)))) (fun w hk => public_d (gl_b hg (KW.below hk)) hf) rfl rfl) <|
    oc (k_ld 0 0 (.agg (ck f)) (c := ck f) (ldK (b := f) 23) rfl rfl) <|
    oz (k_ca 6 #[.agg (ck f)] (.agg (ck (kp (pub f)))) (fun w => rpub_p hf w) rfl rfl) <|
    oz (k_bi (.agg (ck (kp (pub f)))) (.agg (ck (kp (pub f)))) (.bool true) (eqK_t (F := (kp (pub f))) (G := (kp (pub f))) (fun _ _ => rfl)) rfl rfl) <|
    oz (k_pt rfl rfl) <|
    oz (k_mv (.inr rfl) rfl) <|
    ok_nil
  clear h; intro β a w h
  refine sym_then ?_
  refine wp_ret ?_
  exact s_rt h Tryz.results3 (fun hb => ⟨rfl, hb⟩)
end Go.Proofs.YtacokkedomjgpaaGreatDoor

namespace Go.Proofs.YtacokkedomjgpaaGreatDoor
open Go.ChangeShapes Go.WideShapes Go.ChangeAt Go.RowKit Lo
/-! The tables. -/
def laidL : List (String × DataW Unit) := [("cachet/sum.cubes", Rows.laid_cachet_sum_cubes), ("cachet/sum.squares", Rows.laid_cachet_sum_squares)]
theorem gCubes : Tryz.prog.globalNamed "cachet/sum.cubes" = some 1 := by kernel_rfl
theorem gSquares : Tryz.prog.globalNamed "cachet/sum.squares" = some 0 := by kernel_rfl
theorem tCubes : (Tryz.prog.globals[1]?).map (·.type) = some 103 := by kernel_rfl
theorem tSquares : (Tryz.prog.globals[0]?).map (·.type) = some 93 := by kernel_rfl
theorem row_cells {W : World} {fuel n t : Nat} {cs : List Value} {ns : List Nat} {ps : List MemPlace} {base : Nat} {sp : Nat → Bool} {held : Bool} {enc : TypeId × Value → Unit} (ht : Tryz.prog.underlying t = some (.array n 42)) (h : DataW.trod enc Tryz.prog W base sp held fuel t cs = some (.agg (ns.map fun k => .lit (.int .u64 (k : Nat))), ps)) (hn : ns.length = n) :
    ∀ i, i < n → cs[i]? = some (.int .u64 (ns.getD i 0 : Nat)) := by
  obtain ⟨xs, m, rfl, hx, hlen, hxs, hel⟩ := DataW.trod_array ht h
  have c1 : Tryz.prog.cellsOf 42 = 1 := by kernel_rfl
  intro i hi
  have h1 := hel i hi
  rw [c1, Nat.mul_one] at h1
  simp only [Prod.mk.injEq, DataW.agg.injEq] at hx
  have hxi : xs[i]? = some xs[i] := List.getElem?_eq_getElem (by omega)
  rw [hxi] at h1
  obtain ⟨k, e1, e2, _⟩ := DataW.trod_int Tryz.underlying42 h1
  have h3 := congrArg (·[i]?) hx.1
  simp only [List.getElem?_map] at h3
  rw [hxi, List.getElem?_eq_getElem (l := ns) (show i < ns.length by omega)] at h3
  simp only [Option.map_some, Option.some.injEq] at h3
  rw [e2] at h3
  have h4 : ((ns[i] : Nat) : Int) = k := by simpa using h3
  have h5 : cs[i]? = (cs.drop i)[0]? := by simp
  have h6 : ((cs.drop i).take 1)[0]? = (cs.drop i)[0]? := by rw [List.getElem?_take]; simp
  rw [h5, ← h6, e1, List.getD_eq_getElem?_getD, List.getElem?_eq_getElem (l := ns) (show i < ns.length by omega), Option.getD_some, h4]
  rfl
theorem cubes_L : (Rows.laid_cachet_sum_cubes : DataW Unit) = .agg (cuL.map fun k => .lit (.int .u64 (k : Nat))) := by kernel_rfl
theorem squares_L : (Rows.laid_cachet_sum_squares : DataW Unit) = .agg (sqL.map fun k => .lit (.int .u64 (k : Nat))) := by kernel_rfl
theorem of_laid {W : World} (h : laidMetH Tryz.prog laidL W) : Gl W := by
  rw [MakeChecks.laidMetH_plain _ _ _ (by kernel_rfl)] at h
  obtain ⟨ps, ⟨g0, t0, cs0, f0, p0, q0, hg0, ht0, hv0, hd0, ⟨g1, t1, cs1, f1, p1, q1, hg1, ht1, hv1, hd1, _, _⟩, _⟩, _, _⟩ := h
  obtain rfl := Option.some.inj (gCubes.symm.trans hg0)
  obtain rfl := Option.some.inj (gSquares.symm.trans hg1)
  obtain rfl := Option.some.inj (tCubes.symm.trans ht0)
  obtain rfl := Option.some.inj (tSquares.symm.trans ht1)
  rw [cubes_L] at hd0
  rw [squares_L] at hd1
  refine ⟨fun i hi => ?_, fun i hi => ?_⟩
  · rw [World.var?_cell hg1 hv1 i, ← Array.getElem?_toList]
    exact row_cells Tryz.underlying93 hd1 (by kernel_rfl) i hi
  · rw [World.var?_cell hg0 hv0 i, ← Array.getElem?_toList]
    exact row_cells Tryz.underlying103 hd0 (by kernel_rfl) i hi
theorem door_met (os : Os) (args : Array Value) : laidMetH Tryz.prog laidL ((World.doorLaid Tryz.prog 400 os).forCall (fun _ _ => 0) ⟨#[], args, []⟩).memory :=
  laidMetH_of_parts3 (fuel := 8) (laidMet_of_run' 8 (by kernel_rfl) (by kernel_rfl)) (by kernel_rfl) (by kernel_rfl)

section
variable {H : Type} {enc : TypeId × Value → H} {W : World} {held : Bool}
end
end Go.Proofs.YtacokkedomjgpaaGreatDoor

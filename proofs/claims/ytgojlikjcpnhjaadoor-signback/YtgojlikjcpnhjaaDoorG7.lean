/- Sg7, SG10, N21, N22, SG11, Sg8, V5, Sg9, Sg10, SGL: laid together. -/
import Derived.WalkKit
import Derived.ProofKit
import Derived.OpenShut
import Derived.ShutString
import Derived.ChangeOld
import Derived.Below
import Derived.Deep.Slices
import Derived.LaidMore
import Derived.Stop.Joined
import Derived.Test.YtgojlikjcpnhjaaDoorG6
import Derived.Test.YtgojlikjcpnhjaaDoorCards
import Derived.Test.YtgojlikjcpnhjaaDoorTie
namespace Go.Proofs.YtgojlikjcpnhjaaDoor
open Go.RowKit
set_option maxHeartbeats 4000000 in
set_option maxRecDepth 100000 in
theorem right_q {k G : Nat → Nat} {p : Fp × Fp} {R2 ln pc : Nat} {pa_ : Option Addr} (hp : OC p) (hG : ∀ i, G i < 256) (W0 : World)
    (cP : ∀ w, Calls Tryd.prog 13 #[.agg (ck k)] w fun e w' => e = .returned (.tuple #[.agg (pvt p), .bool true]) ∧ Below w.heap.size w w')
    (cLe : ∀ w, Calls Tryd.prog 15 #[.agg (ck (hi32 G))] w fun e w' => e = .returned (.bool true) ∧ Below w.heap.size w w')
    (cR : ∀ (w : World) (g g' q : Nat), Below W0.heap.size W0 w → w.heap[g]? = some (.cells (ck G) 23 (0, 0)) → w.heap[g']? = some (.cells (ck k) 23 (0, 0)) → w.heap[q]? = some (.cells #[.slice (some ⟨g, 0, none⟩) 32 32, .slice (some ⟨g', 0, none⟩) 32 32] 24 (0, 0)) → Calls Tryd.prog 10 #[.slice pa_ ln pc, .slice (some ⟨q, 0, none⟩) 2 2] w fun e w' => e = .returned (.agg (ck (kq R2))) ∧ Below w.heap.size w w')
    (hE : ∀ i, i < 32 → kp (pa (mt (nbv (hi32 G) 32) gG) (pn (mt (nbv (kq R2) 32) p))) i = G i) :
    Calls Tryd.prog 6 #[.agg (ck k), .agg (cw G), .slice pa_ ln pc] W0 fun e w' => e = .returned (.bool true) ∧ Below W0.heap.size W0 w' := by
  refine s_in Tryd.func6 Tryd.ntmps6 rfl [.inl (.agg (ck k)), .inl (.agg (cw G)), .inl (.slice pa_ ln pc)] ?_
  intro β a h
  refine sym_seq ?_
  refine St.rg h [(3, .inr (0, pt 0)), (4, .inr (1, pt 0)), (6, .inl (.bool false))] [(ck k, 23), (cw G, 27)] [] [eN 0, eN 1] ?_ ?_
  · exact oc (k_bx 0 (.agg (ck k)) (bxK (b := k)) rfl rfl) <|
    oc (k_bx 1 (.agg (cw G)) (bxWd (F := G)) rfl rfl) <|
    oz (k_mv (.inr rfl) rfl) <|
    ok_nil
  clear h; intro β a w h
  refine sym_then ?_
  refine sym_seq ?_
  refine St.rg h [(13, .inl (.agg (ck k))), (14, .inl (.tuple #[.agg (pvt p), .bool true])), (12, .inl (.tuple #[.agg (pvt p), .bool true])), (15, .inl (.agg (pvt p))), (16, .inl (.bool true)), (7, .inr (2, pt 0)), (8, .inl (.bool true))] [(pvt pO, 44)] [(2, pvt p)] [eR 0, nn, nn, nn, nn, eN 2, eS 2] ?_ ?_
  · exact oc (k_ld 0 0 (.agg (ck k)) (c := ck k) (ldK (b := k) 23) rfl rfl) <|
    oc (k_ca 13 #[.agg (ck k)] (.tuple #[.agg (pvt p), .bool true]) cP rfl rfl) <|
    oc (k_mv (.inl rfl) rfl) <|
    oc (k_ex (.tuple #[.agg (pvt p), .bool true]) (.agg (pvt p)) rfl rfl) <|
    oc (k_ex (.tuple #[.agg (pvt p), .bool true]) (.bool true) rfl rfl) <|
    oc (k_al 2 alPt rfl rfl) <|
    oc (k_st 2 0 (.agg (pvt p)) (c := pvt pO) (n := pvt p) (stPt (p := p) (c := pvt pO) 44 (ces_size _)) rfl rfl) <|
    oz (k_mv (.inr rfl) rfl) <|
    ok_nil
  clear h; intro β a w h
  refine sym_then ?_
  refine sym_seq ?_
  refine St.rg h [(18, .inl (.agg (cw G))), (19, .inl (.tuple #[.agg (ck G), .agg (ck (hi32 G))])), (17, .inl (.tuple #[.agg (ck G), .agg (ck (hi32 G))])), (20, .inl (.agg (ck G))), (21, .inl (.agg (ck (hi32 G)))), (9, .inr (3, pt 0)), (10, .inr (4, pt 0))] [(ck (fun _ => 0), 23), (ck (fun _ => 0), 23)] [(3, ck G), (4, ck (hi32 G))] [eR 1, nn, nn, nn, nn, eN 3, eN 4, eS 3, eS 4] ?_ ?_
  · exact oc (k_ld 1 0 (.agg (cw G)) (c := cw G) (ldWd (F := G) 27) rfl rfl) <|
    oc (k_ca 14 #[.agg (cw G)] (.tuple #[.agg (ck G), .agg (ck (hi32 G))]) (fun w => halves_d G w) rfl rfl) <|
    oc (k_mv (.inl rfl) rfl) <|
    oc (k_ex (.tuple #[.agg (ck G), .agg (ck (hi32 G))]) (.agg (ck G)) rfl rfl) <|
    oc (k_ex (.tuple #[.agg (ck G), .agg (ck (hi32 G))]) (.agg (ck (hi32 G))) rfl rfl) <|
    oc (k_al 3 alK rfl rfl) <|
    oc (k_al 4 alK rfl rfl) <|
    oc (k_st 3 0 (.agg (ck G)) (c := ck (fun _ => 0)) (n := ck G) (stK (F := G) (c := ck (fun _ => 0)) 23 (ck_size _)) rfl rfl) <|
    oc (k_st 4 0 (.agg (ck (hi32 G))) (c := ck (fun _ => 0)) (n := ck (hi32 G)) (stK (F := (hi32 G)) (c := ck (fun _ => 0)) 23 (ck_size _)) rfl rfl) <|
    ok_nil
  clear h; intro β a w h
  refine sym_then ?_
  refine sym_seq ?_
  refine sym_seq ?_
  refine St.r0 h [(22, .inl (.bool true)), (23, .inl (.bool false)), (24, .inl (.bool false)), (25, .inl (.agg (ck (hi32 G)))), (26, .inl (.bool true)), (27, .inl (.bool false)), (28, .inl (.bool false))] [nn, nn, nn, eR 4] ?_ ?_
  · exact oc (k_mv (.inl rfl) rfl) <|
    oc (k_nt true rfl rfl) <|
    oc (k_mv (.inl rfl) rfl) <|
    oc (k_ld 4 0 (.agg (ck (hi32 G))) (c := ck (hi32 G)) (ldK (b := (hi32 G)) 23) rfl rfl) <|
    oz (k_ca 15 #[.agg (ck (hi32 G))] (.bool true) cLe rfl rfl) <|
    oz (k_nt true rfl rfl) <|
    oz (k_pf rfl rfl) <|
    ok_nil
  clear h; intro β a w h
  refine sym_then ?_
  refine s_cf h ?_
  refine wp_skip ?_
  refine sym_then ?_
  refine sym_seq ?_
  replace h := St.cs h (s' := [.inl (.agg (ck k)), .inl (.agg (cw G)), .inl (.slice pa_ ln pc), .inr (0, pt 0), .inr (1, pt 0), uu, .inl (.bool false), .inr (2, pt 0), .inl (.bool true), .inr (3, pt 0), .inr (4, pt 0), uu, .inl (.tuple #[.agg (pvt p), .bool true]), .inl (.agg (ck k)), .inl (.tuple #[.agg (pvt p), .bool true]), .inl (.agg (pvt p)), .inl (.bool true), .inl (.tuple #[.agg (ck G), .agg (ck (hi32 G))]), .inl (.agg (cw G)), .inl (.tuple #[.agg (ck G), .agg (ck (hi32 G))]), .inl (.agg (ck G)), .inl (.agg (ck (hi32 G))), .inl (.bool true), .inl (.bool false), .inl (.bool false), .inl (.agg (ck (hi32 G))), .inl (.bool true), .inl (.bool false), .inl (.bool false), uu, uu, uu, uu, uu, uu, uu, uu, uu, uu, uu, uu, uu, uu, uu]) (m' := [(ck k, 23), (cw G, 27), (pvt p, 44), (ck G, 23), (ck (hi32 G), 23)]) (by kernel_rfl) (by kernel_rfl)
  obtain ⟨W1f, q1f, βf, hk1f, hr1f, h⟩ := St.fixed h 3 (c := ck G) (t := 23)
  replace h := St.cs h (s' := [.inl (.agg (ck k)), .inl (.agg (cw G)), .inl (.slice pa_ ln pc), .inr (0, pt 0), .inr (1, pt 0), uu, .inl (.bool false), .inr (2, pt 0), .inl (.bool true), .inl (.pointer (some ⟨q1f, 0, none⟩)), .inr (3, pt 0), uu, .inl (.tuple #[.agg (pvt p), .bool true]), .inl (.agg (ck k)), .inl (.tuple #[.agg (pvt p), .bool true]), .inl (.agg (pvt p)), .inl (.bool true), .inl (.tuple #[.agg (ck G), .agg (ck (hi32 G))]), .inl (.agg (cw G)), .inl (.tuple #[.agg (ck G), .agg (ck (hi32 G))]), .inl (.agg (ck G)), .inl (.agg (ck (hi32 G))), .inl (.bool true), .inl (.bool false), .inl (.bool false), .inl (.agg (ck (hi32 G))), .inl (.bool true), .inl (.bool false), .inl (.bool false), uu, uu, uu, uu, uu, uu, uu, uu, uu, uu, uu, uu, uu, uu, uu]) (m' := [(ck k, 23), (cw G, 27), (pvt p, 44), (ck (hi32 G), 23)]) (by kernel_rfl) (by kernel_rfl)
  replace h := h.o0
  replace h := St.cs h (s' := [.inl (.agg (ck k)), .inl (.agg (cw G)), .inl (.slice pa_ ln pc), .inr (0, pt 0), .inr (1, pt 0), uu, .inl (.bool false), .inr (2, pt 0), .inl (.bool true), .inl (.pointer (some ⟨q1f, 0, none⟩)), .inr (3, pt 0), uu, .inl (.tuple #[.agg (pvt p), .bool true]), .inl (.agg (ck k)), .inl (.tuple #[.agg (pvt p), .bool true]), .inl (.agg (pvt p)), .inl (.bool true), .inl (.tuple #[.agg (ck G), .agg (ck (hi32 G))]), .inl (.agg (cw G)), .inl (.tuple #[.agg (ck G), .agg (ck (hi32 G))]), .inl (.agg (ck G)), .inl (.agg (ck (hi32 G))), .inl (.bool true), .inl (.bool false), .inl (.bool false), .inl (.agg (ck (hi32 G))), .inl (.bool true), .inl (.bool false), .inl (.bool false), uu, uu, uu, uu, uu, uu, uu, uu, uu, uu, uu, uu, uu, uu, uu]) (m' := [(ck k, 23), (cw G, 27), (pvt p, 44), (ck (hi32 G), 23)]) (by kernel_rfl) (by kernel_rfl)
  obtain ⟨W2f, q2f, βf, hk2f, hr2f, h⟩ := St.fixed h 0 (c := ck k) (t := 23)
  replace h := St.cs h (s' := [.inl (.agg (ck k)), .inl (.agg (cw G)), .inl (.slice pa_ ln pc), .inl (.pointer (some ⟨q2f, 0, none⟩)), .inr (0, pt 0), uu, .inl (.bool false), .inr (1, pt 0), .inl (.bool true), .inl (.pointer (some ⟨q1f, 0, none⟩)), .inr (2, pt 0), uu, .inl (.tuple #[.agg (pvt p), .bool true]), .inl (.agg (ck k)), .inl (.tuple #[.agg (pvt p), .bool true]), .inl (.agg (pvt p)), .inl (.bool true), .inl (.tuple #[.agg (ck G), .agg (ck (hi32 G))]), .inl (.agg (cw G)), .inl (.tuple #[.agg (ck G), .agg (ck (hi32 G))]), .inl (.agg (ck G)), .inl (.agg (ck (hi32 G))), .inl (.bool true), .inl (.bool false), .inl (.bool false), .inl (.agg (ck (hi32 G))), .inl (.bool true), .inl (.bool false), .inl (.bool false), uu, uu, uu, uu, uu, uu, uu, uu, uu, uu, uu, uu, uu, uu, uu]) (m' := [(cw G, 27), (pvt p, 44), (ck (hi32 G), 23)]) (by kernel_rfl) (by kernel_rfl)
  replace h := h.o0
  refine St.rg h [(29, .inl (.slice pa_ ln pc)), (30, .inl (.slice (some ⟨q1f, 0, none⟩) 32 32)), (31, .inl (.slice (some ⟨q2f, 0, none⟩) 32 32)), (32, .inr (3, sl 0 2 2)), (33, .inl (.agg (ck (kq R2)))), (11, .inr (4, pt 0))] [(#[.slice (some ⟨q1f, 0, none⟩) 32 32, .slice (some ⟨q2f, 0, none⟩) 32 32], 24), (ck (fun _ => 0), 23)] [(4, ck (kq R2))] [nn, nn, nn, eN 3, eR 3, eN 4, eS 4] ?_ ?_
  · exact oc (k_mv (.inl rfl) rfl) <|
    oc (k_sp (.pointer (some ⟨q1f, 0, none⟩)) (.slice (some ⟨q1f, 0, none⟩) 32 32) none none rfl rfl (fun w => sl_key w q1f)) <|
    oc (k_sp (.pointer (some ⟨q2f, 0, none⟩)) (.slice (some ⟨q2f, 0, none⟩) 32 32) none none rfl rfl (fun w => sl_key w q2f)) <|
    oc (k_bs #[(0, .slice (some ⟨q1f, 0, none⟩) 32 32), (1, .slice (some ⟨q2f, 0, none⟩) 32 32)] 3 (c := #[.slice (some ⟨q1f, 0, none⟩) 32 32, .slice (some ⟨q2f, 0, none⟩) 32 32]) (t0 := 24) (fun w => by kernel_rfl) rfl rfl) <|
    oc (k_cb 10 (fun q => #[.slice pa_ ln pc, .slice (some ⟨q, 0, none⟩) 2 2]) (.agg (ck (kq R2))) 3 32 (fun w q hk hq => cR w q1f q2f q (KW.below (hk1f _ (hk2f _ hk))) (hr1f _ (hk2f _ hk)) (hr2f _ hk) hq) rfl rfl (by simp) (fm := sl 0 2 2)) <|
    oc (k_al 4 alK rfl rfl) <|
    oc (k_st 4 0 (.agg (ck (kq R2))) (c := ck (fun _ => 0)) (n := ck (kq R2)) (stK (F := (kq R2)) (c := ck (fun _ => 0)) 23 (ck_size _)) rfl rfl) <|
    ok_nil
  clear h; intro β a w h
  refine sym_then ?_
  refine sym_seq ?_
  refine St.r0 h [(34, .inl (.agg (pvt gG))), (35, .inl (.agg (ck (hi32 G)))), (36, .inl (.agg (pvt (mt (nbv (hi32 G) 32) gG)))), (37, .inl (.agg (pvt p))), (38, .inl (.agg (ck (kq R2)))), (39, .inl (.agg (pvt (mt (nbv (kq R2) 32) p)))), (40, .inl (.agg (pvt (pa (mt (nbv (hi32 G) 32) gG) (pn (mt (nbv (kq R2) 32) p)))))), (41, .inl (.agg (ck (kp (pa (mt (nbv (hi32 G) 32) gG) (pn (mt (nbv (kq R2) 32) p))))))), (42, .inl (.agg (ck G))), (43, .inl (.bool true)), (6, .inl (.bool true))] [nn, eR 2, nn, eR 1, eR 4] ?_ ?_
  · exact oc (k_ca 16 #[] (.agg (pvt gG)) gen_pv rfl rfl) <|
    oc (k_ld 2 0 (.agg (ck (hi32 G))) (c := ck (hi32 G)) (ldK (b := (hi32 G)) 23) rfl rfl) <|
    oc (k_ca 17 #[.agg (pvt gG), .agg (ck (hi32 G))] (.agg (pvt (mt (nbv (hi32 G) 32) gG))) (fun w => many_pv gG_oc (fun i => hG (32 + i)) w) rfl rfl) <|
    oc (k_ld 1 0 (.agg (pvt p)) (c := pvt p) (ldPt (p := p) 44) rfl rfl) <|
    oc (k_ld 4 0 (.agg (ck (kq R2))) (c := ck (kq R2)) (ldK (b := (kq R2)) 23) rfl rfl) <|
    oz (k_ca 17 #[.agg (pvt p), .agg (ck (kq R2))] (.agg (pvt (mt (nbv (kq R2) 32) p))) (fun w => many_pv hp (kq_lt _) w) rfl rfl) <|
    oz (k_ca 18 #[.agg (pvt (mt (nbv (hi32 G) 32) gG)), .agg (pvt (mt (nbv (kq R2) 32) p))] (.agg (pvt (pa (mt (nbv (hi32 G) 32) gG) (pn (mt (nbv (kq R2) 32) p))))) (fun w => minus_pv (mt_oc gG_oc _) (mt_oc hp _) w) rfl rfl) <|
    oz (k_ca 19 #[.agg (pvt (pa (mt (nbv (hi32 G) 32) gG) (pn (mt (nbv (kq R2) 32) p))))] (.agg (ck (kp (pa (mt (nbv (hi32 G) 32) gG) (pn (mt (nbv (kq R2) 32) p)))))) (fun w => key_pv _ w) rfl rfl) <|
    oz (k_lf (.pointer (some ⟨q1f, 0, none⟩)) (.agg (ck G)) (fun w hk => ldK (b := G) 23 w q1f (hr1f _ (hk2f _ hk))) rfl rfl) <|
    oz (k_bi (.agg (ck (kp (pa (mt (nbv (hi32 G) 32) gG) (pn (mt (nbv (kq R2) 32) p)))))) (.agg (ck G)) (.bool true) (eqK_t (F := (kp (pa (mt (nbv (hi32 G) 32) gG) (pn (mt (nbv (kq R2) 32) p))))) (G := G) hE) rfl rfl) <|
    oz (k_mv (.inr rfl) rfl) <|
    ok_nil
  clear h; intro β a w h
  refine sym_then ?_
  refine wp_ret ?_
  exact s_rtW h Tryd.results6 (fun hb => ⟨rfl, KW.below (hk1f _ (hk2f _ hb))⟩)
end Go.Proofs.YtgojlikjcpnhjaaDoor

namespace Go.Proofs.YtgojlikjcpnhjaaDoor
open Go.RowKit Lo
/-- A seed's secret and salt, its public key. -/
def sec (f : Nat → Nat) : Nat → Nat := clmp (lg 32 f)
def slt (f : Nat → Nat) : Nat → Nat := hi32 (lg 32 f)
def pub (f : Nat → Nat) : Fp × Fp := mt (nbv (sec f) 32) gG
theorem sec_lt (f : Nat → Nat) (i : Nat) : sec f i < 256 := clmp_lt (lg_lt 32 f) i
theorem slt_lt (f : Nat → Nat) (i : Nat) : slt f i < 256 := lg_lt 32 f (32 + i)
theorem public_d {f : Nat → Nat} {W0 : World} (hg : Gl W0) (hf : ∀ i, f i < 256) : Calls Tryd.prog 7 #[.agg (ck f)] W0 fun e w' => e = .returned (.agg (ck (kp (pub f)))) ∧ Below W0.heap.size W0 w' :=
  public_q (T := slt f) (sec_lt f) W0 fun _ hb => open_d (gl_b hg hb) hf
/-- What stands ahead of a text, and the text. -/
def r1 (f : Nat → Nat) (L : List Pt) : Nat := rsd ([(32, slt f)] ++ L)
def fst_ (f : Nat → Nat) (L : List Pt) : Nat → Nat := kp (mt (nbv (kq (r1 f L)) 32) gG)
def r2 (f : Nat → Nat) (L : List Pt) : Nat := rsd ([(32, fst_ f L), (32, kp (pub f))] ++ L)
def sgn (f : Nat → Nat) (L : List Pt) : Nat → Nat := jn (fst_ f L) (kq ((nB (kq (r2 f L)) 32 * nB (sec f) 32 + nB (kq (r1 f L)) 32) % oL))
theorem ps_2 {w : World} {g : Nat} {x y : Pt} {a b : Option Addr} {ca cb : Nat} {t : TypeId} (h : w.heap[g]? = some (.cells #[.slice a x.1 ca, .slice b y.1 cb] t (0, 0))) (ha : Bs w a x.1 x.2) (hca : x.1 ≤ ca) (hla : ∀ p, a = some p → p.block < w.heap.size) (hb : Bs w b y.1 y.2) (hcb : y.1 ≤ cb) (hlb : ∀ p, b = some p → p.block < w.heap.size) : PsAt w (some ⟨g, 0, none⟩) [x, y] := fun _ =>
  ⟨g, 0, rfl, fun i hi => by
    have hc : i = 0 ∨ i = 1 := by simp at hi; omega
    rcases hc with rfl | rfl
    · exact ⟨a, ca, by rw [cell_of_row _ _ _ _ _ _ h]; rfl, ha, hca, hla⟩
    · exact ⟨b, cb, by rw [cell_of_row _ _ _ _ _ _ h]; rfl, hb, hcb, hlb⟩⟩
theorem lenS_app (M L : List Pt) : lenS (M ++ L) = lenS M + lenS L := by simp [lenS]
theorem res_2 {L : List Pt} {pa : Option Addr} {pc : Nat} {W0 w : World} {g g' q : Nat} {F G : Nat → Nat} (hg : Gl W0) (hP : PsAt W0 pa L) (hL : ∀ x ∈ L, ∀ i, x.2 i < 256) (hlen : lenS L ≤ 1000000) (hn : L.length ≤ 100) (hF : ∀ i, F i < 256) (hG : ∀ i, G i < 256)
    (hb : Below W0.heap.size W0 w) (h1 : w.heap[g]? = some (.cells (ck F) 23 (0, 0))) (h2 : w.heap[g']? = some (.cells (ck G) 23 (0, 0))) (h3 : w.heap[q]? = some (.cells #[.slice (some ⟨g, 0, none⟩) 32 32, .slice (some ⟨g', 0, none⟩) 32 32] 24 (0, 0))) :
    Calls Tryd.prog 10 #[.slice pa L.length pc, .slice (some ⟨q, 0, none⟩) 2 2] w fun e w' => e = .returned (.agg (ck (kq (rsd ([(32, F), (32, G)] ++ L))))) ∧ Below w.heap.size w w' :=
  residue_d (M := [(32, F), (32, G)]) (gl_b hg hb) (hP.later hb) (ps_2 (x := (32, F)) (y := (32, G)) h3 (bs_key hF h1) (Nat.le_refl _) (fun p e => by cases e; exact (Array.getElem?_eq_some_iff.1 h1).1) (bs_key hG h2) (Nat.le_refl _) (fun p e => by cases e; exact (Array.getElem?_eq_some_iff.1 h2).1)) (by simp) hL (fun x hx i => by
    rcases List.mem_cons.1 hx with rfl | hx
    · exact hF i
    · rcases List.mem_cons.1 hx with rfl | hx
      · exact hG i
      · cases hx) (by rw [lenS_app]; simp [lenS] at hlen ⊢; omega) (by simp; omega)
theorem sign_d {f : Nat → Nat} {L : List Pt} {pa : Option Addr} {pc : Nat} {W0 : World} (hg : Gl W0) (hf : ∀ i, f i < 256) (hP : PsAt W0 pa L) (hL : ∀ x ∈ L, ∀ i, x.2 i < 256) (hlen : lenS L ≤ 1000000) (hn : L.length ≤ 100) :
    Calls Tryd.prog 5 #[.agg (ck f), .slice pa L.length pc] W0 fun e w' => e = .returned (.agg (cw (sgn f L))) ∧ Below W0.heap.size W0 w' := by
  refine sign_q (S := sec f) (T := slt f) (R1 := r1 f L) (R2 := r2 f L) (sec_lt f) W0 (fun _ hb => open_d (gl_b hg hb) hf) (fun w g q hb h1 h2 => ?_) (fun w g g' q hb h1 h2 h3 => ?_)
  · exact residue_d (M := [(32, slt f)]) (gl_b hg hb) (hP.later hb) (ps_1 (x := (32, slt f)) h2 (bs_key (slt_lt f) h1) (Nat.le_refl _) (fun p e => by cases e; exact (Array.getElem?_eq_some_iff.1 h1).1)) (by simp) hL (fun x hx i => by
      rcases List.mem_cons.1 hx with rfl | hx
      · exact slt_lt f i
      · cases hx) (by rw [lenS_app]; simp [lenS] at hlen ⊢; omega) (by simp; omega)
  · exact res_2 hg hP hL hlen hn (kp_lt _) (kp_lt _) hb h1 h2 h3
theorem jn_lo (F G : Nat → Nat) : ck (jn F G) = ck F := ck_congr fun i hi => by unfold jn; rw [if_pos hi]
theorem jn_hi (F G : Nat → Nat) : hi32 (jn F G) = G := by
  funext i
  unfold hi32 jn
  rw [if_neg (by omega), show 32 + i - 32 = i by omega]
theorem kq_self {n : Nat} (h : n < oL) : ∀ i, i < 32 → kq (nB (kq n) 32 % oL) i = kq n i := fun i _ => by
  rw [nB_nbv, oL_256 h, Nat.mod_eq_of_lt h]
theorem sgn_lt (f : Nat → Nat) (L : List Pt) (i : Nat) : sgn f L i < 256 := by
  unfold sgn jn
  split
  · exact kp_lt _ _
  · exact kq_lt _ _
theorem rsd_lt (L : List Pt) : rsd L < oL := Nat.mod_lt _ oL_pos
/-- The group's law: what is signed is right. -/
theorem sgn_eq (s r h : Nat) : pa (mt ((h * s + r) % oL) gG) (pn (mt h (mt s gG))) = mt r gG := by
  have o1 := mt_oc gG_oc (h * s)
  rw [mt_mod, mt_mul gG_oc, Nat.add_comm, ← mt_add gG_oc r (h * s), pa_assoc (mt_oc gG_oc r) o1 (oc_n o1), pa_n o1, pa_O]
/-- Another parting of the same text gives the same residue. -/
theorem rsd_cong {M L L' : List Pt} (hl : lenS L = lenS L') (hj : ∀ i, joinF (M ++ L) i = joinF (M ++ L') i) : rsd (M ++ L) = rsd (M ++ L') := by
  unfold rsd
  rw [lenS_app, lenS_app, hl, lg_cong fun i _ => hj i]
theorem right_d {f : Nat → Nat} {L K : List Pt} {pa_ : Option Addr} {pc : Nat} {W0 : World} (hg : Gl W0) (hP : PsAt W0 pa_ K) (hK : ∀ x ∈ K, ∀ i, x.2 i < 256) (hlen : lenS K ≤ 1000000) (hn : K.length ≤ 100) (hs : lenS K = lenS L) (hj : ∀ M : List Pt, ∀ i, joinF (M ++ K) i = joinF (M ++ L) i) :
    Calls Tryd.prog 6 #[.agg (ck (kp (pub f))), .agg (cw (sgn f L)), .slice pa_ K.length pc] W0 fun e w' => e = .returned (.bool true) ∧ Below W0.heap.size W0 w' := by
  have hi : hi32 (sgn f L) = kq ((nB (kq (r2 f L)) 32 * nB (sec f) 32 + nB (kq (r1 f L)) 32) % oL) := jn_hi _ _
  have e1 : nB (kq (r1 f L)) 32 = r1 f L := by rw [nB_nbv]; exact oL_256 (rsd_lt _)
  have e2 : nB (kq (r2 f L)) 32 = r2 f L := by rw [nB_nbv]; exact oL_256 (rsd_lt _)
  refine right_q (p := pub f) (R2 := r2 f L) (mt_oc gG_oc _) (sgn_lt f L) W0 (fun w => of_pv (mt_oc gG_oc _) w) (fun w => ?_) (fun w g g' q hb h1 h2 h3 => ?_) (fun i h32 => ?_)
  · rw [hi]
    exact least_t (kq_lt _) (kq_self (Nat.mod_lt _ oL_pos)) w
  · have e : ck (sgn f L) = ck (fst_ f L) := jn_lo _ _
    rw [e] at h1
    have := res_2 (pc := pc) hg hP hK hlen hn (kp_lt _) (kp_lt _) hb h1 h2 h3
    rw [rsd_cong hs (fun i => hj _ i)] at this
    exact this
  · rw [hi, oL_256 (Nat.mod_lt _ oL_pos), e1, e2, show nbv (kq (r2 f L)) 32 = r2 f L from oL_256 (rsd_lt _), nB_nbv]
    show kp (pa _ (pn (mt _ (mt (nbv (sec f) 32) gG)))) i = _
    rw [sgn_eq]
    unfold sgn jn
    rw [if_pos h32]
    unfold fst_
    rw [show nbv (kq (r1 f L)) 32 = r1 f L from oL_256 (rsd_lt _)]
end Go.Proofs.YtgojlikjcpnhjaaDoor

namespace Go.Proofs.YtgojlikjcpnhjaaDoor.Lo
open Go.RowKit
/-! Reckoned: one piece. -/
/-- A number is reckoned ahead of what is done with it. -/
def frc {α : Type} (x : Nat) (k : Nat → α) : α := Nat.rec (motive := fun _ => α) (k 0) (fun n _ => k (n + 1)) x
theorem frc_e {α : Type} (x : Nat) (k : Nat → α) : frc x k = k x := by cases x <;> rfl
/-- The next word, out of those ahead of it, the last one first. -/
def wN (l : List Nat) : Nat := (((loW (l.getD 1 0) 19 61 6 + l.getD 6 0) % B64 + loW (l.getD 14 0) 1 8 7) % B64 + l.getD 15 0) % B64
def wl : Nat → List Nat → List Nat
  | 0, l => l
  | k + 1, l => frc (wN l) fun v => wl k (v :: l)
/-- A list holds a row's first ones, the last one first. -/
def Rv (F : Nat → Nat) (n : Nat) (l : List Nat) : Prop := l.length = n ∧ ∀ i, i < n → l.getD (n - 1 - i) 0 = F i
theorem r80_old (p : Nat → Nat) (k : Nat) {i : Nat} (h : i ≠ 16 + k) : r80 p (k + 1) i = r80 p k i := by
  show updN (r80 p k) (16 + k) _ i = _
  unfold updN; rw [if_neg h]
theorem wl_rv (p : Nat → Nat) : ∀ k j l, Rv (r80 p j) (16 + j) l → Rv (r80 p (j + k)) (16 + (j + k)) (wl k l)
  | 0, _, _, h => h
  | k + 1, j, l, h => by
    show Rv _ _ (frc (wN l) fun v => wl k (v :: l))
    rw [frc_e]
    have h2 : Rv (r80 p (j + 1)) (16 + (j + 1)) (wN l :: l) := by
      refine ⟨by simp [h.1]; omega, fun i hi => ?_⟩
      by_cases e : i = 16 + j
      · subst e
        rw [show 16 + (j + 1) - 1 - (16 + j) = 0 by omega]
        show wN l = updN (r80 p j) (16 + j) _ (16 + j)
        unfold updN; rw [if_pos rfl]
        unfold wN
        have g2 := h.2 (16 + j - 2) (by omega)
        have g7 := h.2 (16 + j - 7) (by omega)
        have g15 := h.2 (16 + j - 15) (by omega)
        have g16 := h.2 (16 + j - 16) (by omega)
        rw [show 16 + j - 1 - (16 + j - 2) = 1 by omega] at g2
        rw [show 16 + j - 1 - (16 + j - 7) = 6 by omega] at g7
        rw [show 16 + j - 1 - (16 + j - 15) = 14 by omega] at g15
        rw [show 16 + j - 1 - (16 + j - 16) = 15 by omega] at g16
        rw [g2, g7, g15, g16]
      · rw [r80_old p j e, ← h.2 i (by omega), show 16 + (j + 1) - 1 - i = (16 + j - 1 - i) + 1 by omega]
        rfl
    have h3 := wl_rv p k (j + 1) (wN l :: l) h2
    rwa [show j + 1 + k = j + (k + 1) by omega] at h3
/-- The rounds, over the table and the words. -/
def rnd : List Nat → List Nat → Nat → Nat → Nat → Nat → Nat → Nat → Nat → Nat → List Nat
  | c :: cs, r :: rs, v0, v1, v2, v3, v4, v5, v6, v7 =>
    frc ((((((v7 + hiW v4 14 18 41) % B64) + ((v4 &&& v5) ||| ((18446744073709551615 ^^^ v4) &&& v6))) % B64 + c / 2 ^ 0) % B64 + r) % B64) fun o =>
    frc ((o + ((hiW v0 28 34 39 + (((v0 &&& v1) ||| (v0 &&& v2)) ||| (v1 &&& v2))) % B64)) % B64) fun a =>
    frc ((v3 + o) % B64) fun e => rnd cs rs a v0 v1 v2 e v4 v5 v6
  | _, _, v0, v1, v2, v3, v4, v5, v6, v7 => [v0, v1, v2, v3, v4, v5, v6, v7]
theorem rnd_s (c r : Nat) (cs rs : List Nat) (v0 v1 v2 v3 v4 v5 v6 v7 : Nat) : rnd (c :: cs) (r :: rs) v0 v1 v2 v3 v4 v5 v6 v7 = rnd cs rs (((((((v7 + hiW v4 14 18 41) % B64) + ((v4 &&& v5) ||| ((18446744073709551615 ^^^ v4) &&& v6))) % B64 + c / 2 ^ 0) % B64 + r) % B64 + ((hiW v0 28 34 39 + (((v0 &&& v1) ||| (v0 &&& v2)) ||| (v1 &&& v2))) % B64)) % B64) v0 v1 v2 ((v3 + (((((v7 + hiW v4 14 18 41) % B64) + ((v4 &&& v5) ||| ((18446744073709551615 ^^^ v4) &&& v6))) % B64 + c / 2 ^ 0) % B64 + r) % B64) % B64) v4 v5 v6 := by
  show frc _ _ = _
  rw [frc_e, frc_e, frc_e]
theorem rnd_e (H R : Nat → Nat) : ∀ (k t : Nat), rnd ((List.range' t k).map cu) ((List.range' t k).map R) (vS H R t 0) (vS H R t 1) (vS H R t 2) (vS H R t 3) (vS H R t 4) (vS H R t 5) (vS H R t 6) (vS H R t 7) = [vS H R (t + k) 0, vS H R (t + k) 1, vS H R (t + k) 2, vS H R (t + k) 3, vS H R (t + k) 4, vS H R (t + k) 5, vS H R (t + k) 6, vS H R (t + k) 7]
  | 0, t => rfl
  | k + 1, t => by
    have h := rnd_e H R k (t + 1)
    rw [List.range'_succ, List.map_cons, List.map_cons, rnd_s, vS_s0, vS_s4, vS_s1 H R t, vS_s2 H R t, vS_s3 H R t, vS_s5 H R t, vS_s6 H R t, vS_s7 H R t, h, show t + 1 + k = t + (k + 1) by omega]
theorem mixH_w (H p : Nat → Nat) {i : Nat} (hi : i < 8) : mixH H p i = (H i + vS H (r80 p 64) 80 i) % B64 := by
  unfold mixH
  have h1 : ∀ k j, k ≤ j → hF H (vS H (r80 p 64) 80) k j = H j := by
    intro k
    induction k with
    | zero => intro _ _; rfl
    | succ k ih =>
      intro j hj
      show updN (hF H _ k) k _ j = _
      unfold updN; rw [if_neg (by omega)]; exact ih j (by omega)
  have h2 : ∀ k j, j < k → hF H (vS H (r80 p 64) 80) k j = (H j + vS H (r80 p 64) 80 j) % B64 := by
    intro k
    induction k with
    | zero => intro _ h; omega
    | succ k ih =>
      intro j hj
      show updN (hF H _ k) k _ j = _
      unfold updN
      by_cases e : j = k
      · subst e; rw [if_pos rfl, h1 j j (Nat.le_refl _)]
      · rw [if_neg e]; exact ih j (by omega)
  exact h2 8 i hi
theorem map_rev {R : Nat → Nat} {n : Nat} {l : List Nat} (h : Rv R n l) : (List.range' 0 n).map R = l.reverse := by
  apply List.ext_getElem?
  intro i
  rw [List.getElem?_map]
  rcases Nat.lt_or_ge i n with hi | hi
  · rw [List.getElem?_range' hi, Option.map_some, List.getElem?_reverse (by rw [h.1]; exact hi), h.1]
    have h2 := h.2 i hi
    rw [List.getD_eq_getElem?_getD, List.getElem?_eq_getElem (by rw [h.1]; omega), Option.getD_some] at h2
    rw [List.getElem?_eq_getElem (by rw [h.1]; omega), h2]
    simp
  · rw [List.getElem?_eq_none (by simpa using hi), List.getElem?_eq_none (by rw [List.length_reverse, h.1]; exact hi)]; rfl
/-- The words behind one piece. -/
def oneH (H : Nat → Nat) (l0 : List Nat) : List Nat := rnd ((List.range' 0 80).map cu) (wl 64 l0).reverse (H 0) (H 1) (H 2) (H 3) (H 4) (H 5) (H 6) (H 7)
theorem rnd_0 (H R : Nat → Nat) (k : Nat) : rnd ((List.range' 0 k).map cu) ((List.range' 0 k).map R) (H 0) (H 1) (H 2) (H 3) (H 4) (H 5) (H 6) (H 7) = [vS H R k 0, vS H R k 1, vS H R k 2, vS H R k 3, vS H R k 4, vS H R k 5, vS H R k 6, vS H R k 7] := by
  have h := rnd_e H R k 0
  rw [Nat.zero_add] at h
  exact h
theorem get8 (F : Nat → Nat) {i : Nat} (hi : i < 8) : [F 0, F 1, F 2, F 3, F 4, F 5, F 6, F 7].getD i 0 = F i := by
  have hc : i = 0 ∨ i = 1 ∨ i = 2 ∨ i = 3 ∨ i = 4 ∨ i = 5 ∨ i = 6 ∨ i = 7 := by omega
  rcases hc with rfl | rfl | rfl | rfl | rfl | rfl | rfl | rfl <;> rfl
theorem mix_one {H p : Nat → Nat} {l0 : List Nat} (h : Rv (r80 p 0) 16 l0) {i : Nat} (hi : i < 8) : mixH H p i = (H i + (oneH H l0).getD i 0) % B64 := by
  rw [mixH_w H p hi]
  have h2 : (List.range' 0 80).map (r80 p 64) = (wl 64 l0).reverse := map_rev (wl_rv p 64 0 l0 h)
  have h3 := rnd_0 H (r80 p 64) 80
  rw [h2] at h3
  unfold oneH
  rw [h3, get8 (vS H (r80 p 64) 80) hi]
theorem lg_one {n : Nat} {f : Nat → Nat} {l0 : List Nat} (hn : nP n = 1) (h : Rv (r16 (padF f n) 16) 16 l0) {i : Nat} (hi : i < 64) : lg n f i = (bgF 8 (i / 8) + (oneH (bgF 8) l0).getD (i / 8) 0) % B64 / 256 ^ (7 - i % 8) % 256 := by
  have hp : (fun i => padF f n (128 * 0 + i)) = padF f n := by funext i; rw [Nat.mul_zero, Nat.zero_add]
  unfold lg
  rw [outF_e 8 i (by omega), hn]
  show mixH (bgF 8) (fun i => padF f n (128 * 0 + i)) (i / 8) / _ % 256 = _
  rw [hp, mix_one h (by omega)]
def zs0 : List Nat := [256, 0, 0, 0, 0, 0, 0, 0, 0, 0, 0, 9223372036854775808, 0, 0, 0, 0]
theorem rv_zs0 : Rv (r16 (padF (fun _ => 0) 32) 16) 16 zs0 := ⟨rfl, by decide +kernel⟩
/-- The digest of 32 zeros. -/
def dz : List Nat := [80, 70, 173, 193, 219, 168, 56, 134, 123, 43, 187, 253, 208, 195, 66, 62, 88, 181, 121, 112, 181, 38, 122, 144, 245, 121, 96, 146, 74, 135, 241, 150, 10, 106, 133, 234, 166, 66, 218, 200, 53, 66, 75, 93, 124, 141, 99, 124, 0, 64, 140, 122, 115, 218, 103, 43, 127, 73, 133, 33, 66, 11, 109, 211]
theorem lg_zero : ∀ i, i < 64 → lg 32 (fun _ => 0) i = dz.getD i 0 := by
  have h : ∀ i, i < 64 → (bgF 8 (i / 8) + (oneH (bgF 8) zs0).getD (i / 8) 0) % B64 / 256 ^ (7 - i % 8) % 256 = dz.getD i 0 := by
    have e : oneH (bgF 8) zs0 = [16590354316283047806, 13818184367001344771, 2037463206167937637, 5776266022435338917, 13356607129400399863, 11114007369083713373, 16194014959973738944, 2551491534185647194] := by decide +kernel
    rw [e]
    decide +kernel
  intro i hi
  rw [lg_one (by decide +kernel) rv_zs0 hi]
  exact h i hi
end Go.Proofs.YtgojlikjcpnhjaaDoor.Lo

namespace Go.Proofs.YtgojlikjcpnhjaaDoor
open Go.RowKit Lo
def sz : List Nat := [80, 70, 173, 193, 219, 168, 56, 134, 123, 43, 187, 253, 208, 195, 66, 62, 88, 181, 121, 112, 181, 38, 122, 144, 245, 121, 96, 146, 74, 135, 241, 86]
theorem sz_lt : ∀ i, kl sz i < 256 := kl_lt (by decide)
theorem nbv_cong {f g : Nat → Nat} : ∀ k, (∀ i, i < k → f i = g i) → nbv f k = nbv g k
  | 0, _ => rfl
  | k + 1, h => by
    show nbv f k + f k * 256 ^ k = nbv g k + g k * 256 ^ k
    rw [nbv_cong k fun i hi => h i (by omega), h k (by omega)]
theorem sec_zero : ∀ i, i < 32 → sec (fun _ => 0) i = kl sz i := by
  have h := lg_zero
  have hd : ∀ i, i < 32 → clmp (fun i => dz.getD i 0) i = kl sz i := by decide +kernel
  intro i hi
  rw [← hd i hi]
  unfold sec clmp updN
  simp only [h 0 (by omega), h 31 (by omega), h i (by omega), if_pos]
/-- The four numbers of the zero seed's point. -/
def pz : Nat × Nat × Nat × Nat := fldM sumS (0, ad 0 1, 1, mu 0 (ad 0 1)) (gX, ad gB 1, 1, mu gX (ad gB 1)) (tops (kl sz) (8 * 32) (8 * 32))
theorem pz_y : pz.2.1 = 17795544213405850948028099440025783432366700216335096857458890025222446584369 := by decide +kernel
theorem pz_z : pz.2.2.1 = 30672236085765731992549992651391047967651261110835721834037163334710935651253 := by decide +kernel
theorem pz_i : inv 30672236085765731992549992651391047967651261110835721834037163334710935651253 = 49966580286063331965045471831957328715853262354575492137589563664305666449690 := by decide +kernel
theorem pz_v : mu pz.2.1 (mu 1 (inv pz.2.2.1)) % 256 = 59 ∧ mu pz.2.1 (mu 1 (inv pz.2.2.1)) / 256 % 256 = 106 := by
  rw [pz_y, pz_z, pz_i]; decide +kernel
theorem pj_y {v : Nat × Nat × Nat × Nat} {p : Fp × Fp} (h : Gd v ∧ Pj v p) : mu v.2.1 (mu 1 (inv v.2.2.1)) = p.2.val := by
  obtain ⟨g, nz, e1, e2, -⟩ := h
  have hi : cf v.2.2.1 * cf (inv v.2.2.1) = 1 := by
    have := fi_mul nz
    unfold fi at this
    rwa [cf_sv g.2.2.1] at this
  refine cf_inj (mu_lt _ _) p.2.isLt ?_
  rw [cf_mu, cf_mu, cf_one, e2, cf_val]; exact g_pt _ _ _ hi
theorem mt_pz {f : Nat → Nat} (hf : ∀ i, f i < 256) : Gd (fldM sumS (0, ad 0 1, 1, mu 0 (ad 0 1)) (gX, ad gB 1, 1, mu gX (ad gB 1)) (tops f (8 * 32) (8 * 32))) ∧ Pj (fldM sumS (0, ad 0 1, 1, mu 0 (ad 0 1)) (gX, ad gB 1, 1, mu gX (ad gB 1)) (tops f (8 * 32) (8 * 32))) (mt (nbv f 32) gG) := by
  have gO : Gd (0, ad 0 1, 1, mu 0 (ad 0 1)) := ⟨zero_ltp, ad_lt _ _, one_ltp, mu_lt _ _⟩
  have gg : Gd (gX, ad gB 1, 1, mu gX (ad gB 1)) := ⟨gX_lt, ad_lt _ _, one_ltp, mu_lt _ _⟩
  have hr := fldM_rel (add := sumS) (no := (0, ad 0 1, 1, mu 0 (ad 0 1))) (one := (gX, ad gB 1, 1, mu gX (ad gB 1))) gG_oc (Rl := fun v q => Gd v ∧ Pj v q) (fun u v q r hq hr h1 h2 => ⟨sumS_gd _ _, sumS_pj h1.1 h2.1 hq hr h1.2 h2.2⟩) ⟨gO, O_sh⟩ ⟨gg, G_sh⟩ (tops f (8 * 32) (8 * 32))
  rw [tops_all hf] at hr
  exact hr
theorem pz_pub : Gd pz ∧ Pj pz (mt (nbv (kl sz) 32) gG) := mt_pz sz_lt
theorem pub_sz : pub (fun _ => 0) = mt (nbv (kl sz) 32) gG := by unfold pub; rw [nbv_cong 32 sec_zero]
theorem kp_kb {p : Fp × Fp} {y i : Nat} (hy : y = p.2.val) (h : i ≠ 31) : kp p i = kb y i := by
  subst hy
  unfold kp tk
  split
  · rfl
  · unfold updN; rw [if_neg h]
theorem pub_zero : kp (pub fun _ => 0) 0 = 59 ∧ kp (pub fun _ => 0) 1 = 106 := by
  have hy := pj_y pz_pub
  rw [← pub_sz] at hy
  rw [kp_kb hy (by decide), kp_kb hy (by decide)]
  have hv := pz_v
  unfold kb
  rw [Nat.pow_zero, Nat.div_one, Nat.pow_one]
  exact hv
end Go.Proofs.YtgojlikjcpnhjaaDoor

namespace Go.Proofs.YtgojlikjcpnhjaaDoor
open Go.RowKit Lo
def cat2 (la : Nat) (fa fb : Nat → Nat) (i : Nat) : Nat := if i < la then fa i else fb (i - la)
theorem cat2_lt {la : Nat} {fa fb : Nat → Nat} (ha : ∀ i, fa i < 256) (hb : ∀ i, fb i < 256) (i : Nat) : cat2 la fa fb i < 256 := by
  unfold cat2
  split
  · exact ha _
  · exact hb _
theorem cat2_app (la lb : Nat) (fa fb : Nat → Nat) : bvs la fa ++ bvs lb fb = bvs (la + lb) (cat2 la fa fb) := by
  rw [show bvs la fa = bvs la (cat2 la fa fb) from bvs_cong fun i hi => by unfold cat2; rw [if_pos hi]]
  exact bvs_app fun i hi => by unfold cat2; rw [if_neg (by omega), show la + i - la = i by omega]
theorem St.ownd {W : Wd} {s : List SV} {m : List Blk} {β : Nat → Nat} {a : Act} {w w' : World} {v : Value} {n : Nat} {g : Nat → Nat} (h : St W s m β a w) (hb : Below w.heap.size w w') (ho : w'.ownsRow w.heap.size 5 1 v n (bvs n g)) (hg : ∀ i, g i < 256) :
    ∃ (V : Wd) (r : Option Addr) (cap : Nat), v = .slice r n cap ∧ (∀ u, KW V u → KW W u) ∧ (∀ u, KW V u → Bs u r n g ∧ n ≤ cap ∧ ∀ x, r = some x → x.block < u.heap.size) ∧ St V s m β a w' := by
  have hlt : ∀ b, b < m.length → β b < w.heap.size := by
    intro b hb
    obtain ⟨x, hx⟩ : ∃ x, m[b]? = some x := ⟨_, List.getElem?_eq_getElem hb⟩
    exact (Array.getElem?_eq_some_iff.1 (h.row b x hx)).1
  have hS : ∀ k, W.S k → k < w.heap.size := fun k hk => Nat.lt_of_lt_of_le (W.lt k hk) h.bel.size
  have key : ∀ (T : Nat → Prop) (hT : ∀ k, T k → k < w'.heap.size ∧ (W.S k ∨ w.heap.size ≤ k)) (hW : ∀ k, W.S k → T k), ∃ V : Wd, V.w = w' ∧ V.S = T ∧ (∀ u, KW V u → KW W u) ∧ St V s m β a w' := by
    intro T hT hW
    refine ⟨⟨w', T, fun k hk => (hT k hk).1, fun _ => none⟩, rfl, rfl, fun u k => ?_, ?_⟩
    · have q := h.bel.quiet hb
      exact ⟨k.os.trans q.os, k.tape.trans q.tape, k.output.trans q.output, Nat.le_trans q.size k.size, fun b hb => (k.block b (hW b hb)).trans (q.block b hb)⟩
    · refine ⟨h.tm, ⟨rfl, rfl, rfl, Nat.le_refl _, fun _ _ => rfl⟩, fun b c hc => ?_, fun b hbm hk => ?_, h.inj, h.live, fun b q hx => by cases hx⟩
      · exact (hb.block _ (hlt b (List.getElem?_eq_some_iff.1 hc).1)).trans (h.row b c hc)
      · rcases (hT _ hk).2 with h1 | h1
        · exact h.old b hbm h1
        · have := hlt b hbm; omega
  rcases ho.2 with ⟨rfl, e⟩ | ⟨q, cap, cur, rfl, hq, hh, hc, _, _, ht⟩
  · obtain ⟨V, e1, e2, h1, h2⟩ := key W.S (fun k hk => ⟨Nat.lt_of_lt_of_le (hS k hk) hb.size, Or.inl hk⟩) (fun _ h => h)
    subst e
    exact ⟨V, none, 0, rfl, h1, fun u _ => ⟨⟨hg, fun h => absurd h (by omega)⟩, Nat.le_refl _, fun x e => by cases e⟩, h2⟩
  · have hql := (Array.getElem?_eq_some_iff.1 hh).1
    obtain ⟨V, e1, e2, h1, h2⟩ := key (fun k => W.S k ∨ k = q) (fun k hk => by
      rcases hk with hk | rfl
      · exact ⟨Nat.lt_of_lt_of_le (hS k hk) hb.size, Or.inl hk⟩
      · exact ⟨hql, Or.inr hq⟩) (fun _ h => Or.inl h)
    refine ⟨V, some ⟨q, 0, none⟩, cap, rfl, h1, fun u k => ?_, h2⟩
    have hu : u.heap[q]? = some (.cells cur 5 (0, 0)) := by
      have := k.block q (by rw [e2]; exact Or.inr rfl)
      rw [this, e1]; exact hh
    refine ⟨⟨hg, fun _ => ⟨q, 0, rfl, fun i hi => ?_⟩⟩, hc, fun x e => by cases e; exact (Array.getElem?_eq_some_iff.1 hu).1⟩
    rw [cell_of_row _ _ _ _ _ _ hu, Nat.zero_add]
    have h3 : (bvs n g)[i]? = some (.int .u8 ((g i : Nat) : Int)) := bvs_get g hi
    rw [Nat.mul_one] at ht
    rw [← ht, List.getElem?_take_of_lt hi] at h3
    simpa using h3
theorem go_same {W : Wd} {s : List SV} {m : List Blk} {β : Nat → Nat} {a : Act} {w : World} {Q : Exit → Act → World → Prop} (h : St W s m β a w) (s' : List SV) {a' : Act} (hk : ∀ β a w, St W s' m β a w → Q .normal a w) (ha : a' = { tmps := (s'.map (den β)).toArray, defers := [] }) (hl : liveB s' m.length = true := by kernel_rfl) : Q .normal a' w := by
  rw [ha]; exact hk _ _ _ (h.slots s' hl)
set_option maxRecDepth 100000 in
theorem eqW_t {x u : Operand} {F : Nat → Nat} (w : World) : (do eqGuard .eql 27 x u (.agg (cw F)) (.agg (cw F)); binOp .eql 27 (.agg (cw F)) (.agg (cw F))).run Tryd.prog w = .ok (.bool true) w := by
  have h1 := eq_ints (P := Tryd.prog) (t := 27) (e := 5) (n := 64) (k := .u8) (k' := .u8) Tryd.underlying27 (inf := _) rfl (by kernel_rfl) Tryd.underlying5 (fun _ => by kernel_rfl) (cw F) (cw F) (fun i => (F i : Int)) (fun i => (F i : Int)) (fun i hi => by unfold cw ab; exact arr_get 64 (fun i => .int .u8 ((F i : Nat) : Int)) i hi) (fun i hi => by unfold cw ab; exact arr_get 64 (fun i => .int .u8 ((F i : Nat) : Int)) i hi) w
  rw [decide_eq_true (fun _ _ => rfl)] at h1
  simp [eqGuard, binOp, go_sem, Op.equal, Op.maxDepth, h1]
theorem join_cat (la lb : Nat) (fa fb : Nat → Nat) : ∀ (M : List Pt) (i : Nat), joinF (M ++ [(la + lb, cat2 la fa fb)]) i = joinF (M ++ [(la, fa), (lb, fb)]) i
  | [], i => by
    show (if i < la + lb then cat2 la fa fb i else 0) = if i < la then fa i else if i - la < lb then fb (i - la) else 0
    unfold cat2
    by_cases h1 : i < la
    · rw [if_pos (by omega), if_pos h1, if_pos h1]
    · rw [if_neg h1, if_neg h1]
      by_cases h2 : i < la + lb
      · rw [if_pos h2, if_pos (by omega)]
      · rw [if_neg h2, if_neg (by omega)]
  | x :: M, i => by
    show (if i < x.1 then x.2 i else joinF (M ++ _) (i - x.1)) = if i < x.1 then x.2 i else joinF (M ++ _) (i - x.1)
    rw [join_cat la lb fa fb M]
end Go.Proofs.YtgojlikjcpnhjaaDoor

namespace Go.Proofs.YtgojlikjcpnhjaaDoor
open Go.RowKit Lo
set_option maxHeartbeats 4000000 in
set_option maxRecDepth 100000 in
theorem back_q {f PK SG fa fb : Nat → Nat} {la lb ca cb : Nat} {aa ba : Option Addr} (hla : la ≤ 1000) (hlb : lb ≤ 1000) (W0 : World) (hBa : Bs W0 aa la fa) (hBb : Bs W0 ba lb fb)
    (cA : ∀ w, Below W0.heap.size W0 w → Calls Tryd.prog 4 #[] w fun e w' => e = .returned (.bool true) ∧ Below w.heap.size w w')
    (cPu : ∀ w, Below W0.heap.size W0 w → Calls Tryd.prog 7 #[.agg (ck f)] w fun e w' => e = .returned (.agg (ck PK)) ∧ Below w.heap.size w w')
    (cS2 : ∀ (w : World) (q : Nat), Below W0.heap.size W0 w → w.heap[q]? = some (.cells #[.slice aa la ca, .slice ba lb cb] 24 (0, 0)) → Calls Tryd.prog 5 #[.agg (ck f), .slice (some ⟨q, 0, none⟩) 2 2] w fun e w' => e = .returned (.agg (cw SG)) ∧ Below w.heap.size w w')
    (cS1 : ∀ (w : World) (r : Option Addr) (cap q : Nat), Below W0.heap.size W0 w → (Bs w r (la + lb) (cat2 la fa fb) ∧ la + lb ≤ cap ∧ ∀ x, r = some x → x.block < w.heap.size) → w.heap[q]? = some (.cells #[.slice r (la + lb) cap] 24 (0, 0)) → Calls Tryd.prog 5 #[.agg (ck f), .slice (some ⟨q, 0, none⟩) 1 1] w fun e w' => e = .returned (.agg (cw SG)) ∧ Below w.heap.size w w')
    (cT2 : ∀ (w : World) (q : Nat), Below W0.heap.size W0 w → w.heap[q]? = some (.cells #[.slice aa la ca, .slice ba lb cb] 24 (0, 0)) → Calls Tryd.prog 6 #[.agg (ck PK), .agg (cw SG), .slice (some ⟨q, 0, none⟩) 2 2] w fun e w' => e = .returned (.bool true) ∧ Below w.heap.size w w')
    (cT1 : ∀ (w : World) (r : Option Addr) (cap q : Nat), Below W0.heap.size W0 w → (Bs w r (la + lb) (cat2 la fa fb) ∧ la + lb ≤ cap ∧ ∀ x, r = some x → x.block < w.heap.size) → w.heap[q]? = some (.cells #[.slice r (la + lb) cap] 24 (0, 0)) → Calls Tryd.prog 6 #[.agg (ck PK), .agg (cw SG), .slice (some ⟨q, 0, none⟩) 1 1] w fun e w' => e = .returned (.bool true) ∧ Below w.heap.size w w') :
    Calls Tryd.prog 3 #[.agg (ck f), .slice aa la ca, .slice ba lb cb] W0 fun e w' => e = .returned (.bool true) ∧ Below W0.heap.size W0 w' := by
  refine s_in Tryd.func3 Tryd.ntmps3 rfl [.inl (.agg (ck f)), .inl (.slice aa la ca), .inl (.slice ba lb cb)] ?_
  intro β a h
  refine sym_seq ?_
  refine St.rg h [(3, .inr (0, pt 0)), (6, .inl (.bool false))] [(ck f, 23)] [] [eN 0] ?_ ?_
  · exact oc (k_bx 0 (.agg (ck f)) (bxK (b := f)) rfl rfl) <|
    oz (k_mv (.inr rfl) rfl) <|
    ok_nil
  clear h; intro β a w h
  refine sym_then ?_
  refine sym_seq ?_
  refine sym_seq ?_
  refine St.r0 h [(9, .inl (.bool true)), (10, .inl (.bool false))] [] ?_ ?_
  · exact oz (k_cw 4 #[] (.bool true) (fun w hw => cA w (KW.below hw)) rfl rfl) <|
    oz (k_nt true rfl rfl) <|
    ok_nil
  clear h; intro β a w h
  refine sym_then ?_
  refine s_cf h ?_
  refine wp_skip ?_
  refine sym_then ?_
  refine sym_seq ?_
  refine sym_seq ?_
  refine St.r0 h [(11, .inl (.slice aa la ca)), (12, .inl (.int .i64 ((la : Nat) : Int))), (13, .inl (.bool false)), (14, .inl (.bool false)), (15, .inl (.slice ba lb cb)), (16, .inl (.int .i64 ((lb : Nat) : Int))), (17, .inl (.bool false)), (18, .inl (.bool false))] [] ?_ ?_
  · exact oz (k_mv (.inl rfl) rfl) <|
    oz (k_ln la ca rfl rfl (fun w => len_run _ w) (ad := aa)) <|
    oz (k_bi (.int .i64 ((la : Nat) : Int)) (.int .i64 ((1000 : Nat) : Int)) (.bool false) (gt_i (m := ((la : Nat) : Int)) (n := ((1000 : Nat) : Int)) (decide_eq_false (by omega))) rfl rfl) <|
    oz (k_mv (.inl rfl) rfl) <|
    oz (k_mv (.inl rfl) rfl) <|
    oz (k_ln lb cb rfl rfl (fun w => len_run _ w) (ad := ba)) <|
    oz (k_bi (.int .i64 ((lb : Nat) : Int)) (.int .i64 ((1000 : Nat) : Int)) (.bool false) (gt_i (m := ((lb : Nat) : Int)) (n := ((1000 : Nat) : Int)) (decide_eq_false (by omega))) rfl rfl) <|
    oz (k_pf rfl rfl) <|
    ok_nil
  clear h; intro β a w h
  refine sym_then ?_
  refine s_cf h ?_
  refine wp_skip ?_
  refine sym_then ?_
  refine sym_seq ?_
  refine St.rg h [(19, .inl (.agg (ck f))), (20, .inl (.slice aa la ca)), (21, .inl (.slice ba lb cb)), (22, .inr (1, sl 0 2 2)), (23, .inl (.agg (cw SG))), (7, .inr (2, pt 0))] [(#[.slice aa la ca, .slice ba lb cb], 24), (cw (fun _ => 0), 27)] [(2, cw SG)] [eR 0, nn, nn, eN 1, eR 1, eN 2, eS 2] ?_ ?_
  · exact oc (k_ld 0 0 (.agg (ck f)) (c := ck f) (ldK (b := f) 23) rfl rfl) <|
    oc (k_mv (.inl rfl) rfl) <|
    oc (k_mv (.inl rfl) rfl) <|
    oc (k_bs #[(0, .slice aa la ca), (1, .slice ba lb cb)] 1 (c := #[.slice aa la ca, .slice ba lb cb]) (t0 := 24) (fun w => by kernel_rfl) rfl rfl) <|
    oc (k_cb 5 (fun q => #[.agg (ck f), .slice (some ⟨q, 0, none⟩) 2 2]) (.agg (cw SG)) 1 22 (fun w q hk hq => cS2 w q (KW.below hk) hq) rfl rfl (by simp) (fm := sl 0 2 2)) <|
    oc (k_al 2 alWd rfl rfl) <|
    oc (k_st 2 0 (.agg (cw SG)) (c := cw (fun _ => 0)) (n := cw SG) (stWd (F := SG) (c := cw (fun _ => 0)) 27 (ab_size _ _)) rfl rfl) <|
    ok_nil
  clear h; intro β a w h
  refine sym_then ?_
  refine sym_seq ?_
  replace h := St.cs h (s' := [.inl (.agg (ck f)), .inl (.slice aa la ca), .inl (.slice ba lb cb), .inr (0, pt 0), uu, uu, .inl (.bool false), .inr (2, pt 0), uu, .inl (.bool true), .inl (.bool false), .inl (.slice aa la ca), .inl (.int .i64 ((la : Nat) : Int)), .inl (.bool false), .inl (.bool false), .inl (.slice ba lb cb), .inl (.int .i64 ((lb : Nat) : Int)), .inl (.bool false), .inl (.bool false), .inl (.agg (ck f)), .inl (.slice aa la ca), .inl (.slice ba lb cb), .inr (1, sl 0 2 2), .inl (.agg (cw SG)), uu, uu, uu, uu, uu, uu, uu, uu, uu, uu, uu, uu, uu, uu, uu, uu, uu, uu, uu, uu, uu, uu, uu, uu, uu, uu, uu, uu]) (m' := [(ck f, 23), (#[.slice aa la ca, .slice ba lb cb], 24), (cw SG, 27)]) (by kernel_rfl) (by kernel_rfl)
  obtain rfl : a = { tmps := #[.agg (ck f), .slice aa la ca, .slice ba lb cb, fv (pt 0) (β 0), undef, undef, .bool false, fv (pt 0) (β 2), undef, .bool true, .bool false, .slice aa la ca, .int .i64 ((la : Nat) : Int), .bool false, .bool false, .slice ba lb cb, .int .i64 ((lb : Nat) : Int), .bool false, .bool false, .agg (ck f), .slice aa la ca, .slice ba lb cb, fv (sl 0 2 2) (β 1), .agg (cw SG), undef, undef, undef, undef, undef, undef, undef, undef, undef, undef, undef, undef, undef, undef, undef, undef, undef, undef, undef, undef, undef, undef, undef, undef, undef, undef, undef, undef], defers := [] } := h.tm
  have hb0 := KW.below h.bel
  have hA := hBa.later hb0
  have hB := hBb.later hb0
  have hH := hide1 h
  clear h
  have hown0 : (w.alloc (.cells #[] 5)).ownsRow w.heap.size 5 1 (.slice (some ⟨w.heap.size, 0, none⟩) 0 0) 0 (bvs 0 fa) := ⟨rfl, .inr ⟨w.heap.size, 0, #[], rfl, Nat.le_refl _, (MapKept.heap_alloc w _).1, Nat.le_refl _, Nat.zero_le _, rfl, rfl⟩⟩
  have hal : Below w.heap.size w (w.alloc (.cells #[] 5)) := (Below.refl _ _).alloc (Nat.le_refl _) _
  have hA1 := hA.later hal
  have hsz : (w.alloc (.cells #[] 5)).heap.size = w.heap.size + 1 := by simp
  have hbs1 : w.heap.size ≤ (w.alloc (.cells #[] 5)).heap.size := by omega
  have HZ := hide1 hsz
  clear hsz hA
  refine reg_gen fun QQ hQQ => ?_
  go_wp2_with (first
    | (at_builtin
       refine wpList_append_f rfl (.tmp 24) (.tmp 25) rfl w.heap.size _ 0 _ rfl hown0 _ la ca fa rfl hA1 (by omega) hbs1 ?_
       intro v1 w1 ho1 hg1 _
       have hw1 := below_app hal hbs1 hown0 hg1
       have hB1 := hB.later hw1
       have hs1 := hw1.size
       clear hown0 hg1 hA1 hB)
    | (at_builtin
       refine wpList_append_f rfl (.tmp 26) (.tmp 27) rfl w.heap.size _ (0 + la) _ rfl ho1 _ lb cb fb rfl hB1 (by omega) hs1 ?_
       intro v2 w2 ho2 hg2 _
       have hw2 := below_app hw1 hs1 ho1 hg2
       clear hg2 hB1))
  refine hQQ.out _ _ ?_
  clear hQQ QQ
  have e0 : bvs 0 fa ++ bvs la fa ++ bvs lb fb = bvs (la + lb) (cat2 la fa fb) := by rw [← cat2_app]; rfl
  rw [e0, Nat.zero_add] at ho2
  obtain ⟨W1f, r1, cap1, rfl, hk1f, hr1f, h⟩ := St.ownd hH.out hw2 ho2 (cat2_lt hBa.1 hBb.1)
  refine go_same h [.inl (.agg (ck f)), .inl (.slice aa la ca), .inl (.slice ba lb cb), .inr (0, pt 0), uu, uu, .inl (.bool false), .inr (2, pt 0), .inl (.slice r1 (la + lb) cap1), .inl (.bool true), .inl (.bool false), .inl (.slice aa la ca), .inl (.int .i64 ((la : Nat) : Int)), .inl (.bool false), .inl (.bool false), .inl (.slice ba lb cb), .inl (.int .i64 ((lb : Nat) : Int)), .inl (.bool false), .inl (.bool false), .inl (.agg (ck f)), .inl (.slice aa la ca), .inl (.slice ba lb cb), .inr (1, sl 0 2 2), .inl (.agg (cw SG)), .inl (.slice (some ⟨w.heap.size, 0, none⟩) 0 0), .inl (.slice aa la ca), .inl v1, .inl (.slice ba lb cb), .inl (.slice r1 (la + lb) cap1), uu, uu, uu, uu, uu, uu, uu, uu, uu, uu, uu, uu, uu, uu, uu, uu, uu, uu, uu, uu, uu, uu, uu] ?_ (by kernel_rfl)
  clear h hH; intro β a w h; replace h := h.o0
  refine sym_then ?_
  refine sym_seq ?_
  refine St.rg h [(29, .inl (.agg (cw SG))), (30, .inl (.agg (ck f))), (31, .inl (.slice r1 (la + lb) cap1)), (32, .inr (3, sl 0 1 1)), (33, .inl (.agg (cw SG))), (34, .inl (.bool true)), (35, .inl (.bool true)), (36, .inl (.agg (ck f))), (37, .inl (.agg (ck PK))), (38, .inl (.agg (cw SG))), (39, .inl (.slice aa la ca)), (40, .inl (.slice ba lb cb)), (41, .inr (4, sl 0 2 2)), (42, .inl (.bool true)), (43, .inl (.bool true)), (44, .inl (.bool true)), (45, .inl (.agg (ck f))), (46, .inl (.agg (ck PK))), (47, .inl (.agg (cw SG))), (48, .inl (.slice r1 (la + lb) cap1)), (49, .inr (5, sl 0 1 1)), (50, .inl (.bool true)), (51, .inl (.bool true)), (6, .inl (.bool true))] [(#[.slice r1 (la + lb) cap1], 24), (#[.slice aa la ca, .slice ba lb cb], 24), (#[.slice r1 (la + lb) cap1], 24)] [] [eR 2, eR 0, nn, eN 3, eR 3, nn, nn, eR 0, nn, eR 2, nn, nn, eN 4, eR 4, nn, nn, eR 0, nn, eR 2, nn, eN 5, eR 5] ?_ ?_
  · exact oc (k_ld 2 0 (.agg (cw SG)) (c := cw SG) (ldWd (F := SG) 27) rfl rfl) <|
    oc (k_ld 0 0 (.agg (ck f)) (c := ck f) (ldK (b := f) 23) rfl rfl) <|
    oc (k_mv (.inl rfl) rfl) <|
    oc (k_bs #[(0, .slice r1 (la + lb) cap1)] 3 (c := #[.slice r1 (la + lb) cap1]) (t0 := 24) (fun w => by kernel_rfl) rfl rfl) <|
    oc (k_cb 5 (fun q => #[.agg (ck f), .slice (some ⟨q, 0, none⟩) 1 1]) (.agg (cw SG)) 3 32 (fun w q hk hq => cS1 w r1 cap1 q (KW.below (hk1f _ hk)) (hr1f _ hk) hq) rfl rfl (by simp) (fm := sl 0 1 1)) <|
    oc (k_bi (.agg (cw SG)) (.agg (cw SG)) (.bool true) (eqW_t (F := SG)) rfl rfl) <|
    oc (k_mv (.inl rfl) rfl) <|
    oc (k_ld 0 0 (.agg (ck f)) (c := ck f) (ldK (b := f) 23) rfl rfl) <|
    oc (k_cw 7 #[.agg (ck f)] (.agg (ck PK)) (fun w hk => cPu w (KW.below (hk1f _ hk))) rfl rfl) <|
    oc (k_ld 2 0 (.agg (cw SG)) (c := cw SG) (ldWd (F := SG) 27) rfl rfl) <|
    oc (k_mv (.inl rfl) rfl) <|
    oc (k_mv (.inl rfl) rfl) <|
    oc (k_bs #[(0, .slice aa la ca), (1, .slice ba lb cb)] 4 (c := #[.slice aa la ca, .slice ba lb cb]) (t0 := 24) (fun w => by kernel_rfl) rfl rfl) <|
    oc (k_cb 6 (fun q => #[.agg (ck PK), .agg (cw SG), .slice (some ⟨q, 0, none⟩) 2 2]) (.bool true) 4 41 (fun w q hk hq => cT2 w q (KW.below (hk1f _ hk)) hq) rfl rfl (by simp) (fm := sl 0 2 2)) <|
    oc (k_pt rfl rfl) <|
    oc (k_mv (.inl rfl) rfl) <|
    oc (k_ld 0 0 (.agg (ck f)) (c := ck f) (ldK (b := f) 23) rfl rfl) <|
    oc (k_cw 7 #[.agg (ck f)] (.agg (ck PK)) (fun w hk => cPu w (KW.below (hk1f _ hk))) rfl rfl) <|
    oc (k_ld 2 0 (.agg (cw SG)) (c := cw SG) (ldWd (F := SG) 27) rfl rfl) <|
    oc (k_mv (.inl rfl) rfl) <|
    oc (k_bs #[(0, .slice r1 (la + lb) cap1)] 5 (c := #[.slice r1 (la + lb) cap1]) (t0 := 24) (fun w => by kernel_rfl) rfl rfl) <|
    oc (k_cb 6 (fun q => #[.agg (ck PK), .agg (cw SG), .slice (some ⟨q, 0, none⟩) 1 1]) (.bool true) 5 49 (fun w q hk hq => cT1 w r1 cap1 q (KW.below (hk1f _ hk)) (hr1f _ hk) hq) rfl rfl (by simp) (fm := sl 0 1 1)) <|
    oz (k_pt rfl rfl) <|
    oz (k_mv (.inr rfl) rfl) <|
    ok_nil
  clear h; intro β a w h
  refine sym_then ?_
  refine wp_ret ?_
  exact s_rtW h Tryd.results3 (fun hb => ⟨rfl, KW.below (hk1f _ hb)⟩)
end Go.Proofs.YtgojlikjcpnhjaaDoor

namespace Go.Proofs.YtgojlikjcpnhjaaDoor
open Go.RowKit
section
variable {P : Program} {Q : Exit → Act → World → Prop}
theorem putg_ {a : Act} {d t : Nat} {v : Value} (hd : d < a.tmps.size) : (a.put (some d) v).tmps.getD t undef = if t = d then v else a.tmps.getD t undef := by
  unfold Act.put
  simp only [Array.getD_eq_getD_getElem?, Array.getElem?_setIfInBounds]
  by_cases e : d = t
  · subst e; simp [hd]
  · rw [if_neg e, if_neg (fun h => e h.symm)]
theorem wp_val {o : Oper} {a : Act} {w w' : World} {K : Act → World → Prop} {v : Value} (h : (execOp a.eval o).run P w = .ok (.value v) w') (hk : K (a.put o.dst v) w') : o.wp P a w K Q := by
  unfold Oper.wp; rw [h]; exact hk
/-- Rows keep what they hold; marks may come. -/
def Grw (w w' : World) : Prop := ∀ (g : Nat) (c : Array Value) (t : TypeId) (fr : Nat × Nat), w.heap[g]? = some (Obj.cells c t fr) → ∃ fr' : Nat × Nat, w'.heap[g]? = some (Obj.cells c t fr')
theorem grw_b {w w' : World} (h : Below w.heap.size w w') : Grw w w' := fun _ _ _ fr hg => ⟨fr, (h.block _ (Array.getElem?_eq_some_iff.1 hg).1).trans hg⟩
theorem wp_rel {l : List Oper} {id : Nat} (W : World) (a0 : Act) (w0 : World) (Rr : Nat → Value → World → Prop) (dd : Nat → Nat) (hm : P.follows .mixedOrders = true) (hac : acycB l.toArray = true) (n : Nat) (hn : l.length = n) (hdB : l.map (·.dst) = (List.range n).map fun i => some (dd i))
    (hinj : ∀ i j, i < n → j < n → dd i = dd j → i = j) (hsz : ∀ i, i < n → dd i < a0.tmps.size) (mono : ∀ i v w w', Rr i v w → Grw w w' → Rr i v w') (hw0 : Below W.heap.size W w0) (hdf : a0.defers = [])
    (hop : ∀ i o, l[i]? = some o → ∀ (a : Act) (w : World), Below W.heap.size W w → (∀ t, (∀ j, j < n → dd j ≠ t) → a.tmps.getD t undef = a0.tmps.getD t undef) → (∀ e ∈ o.after, Region.binds .any e = true → Rr e.on (a.tmps.getD (dd e.on) undef) w) → ∀ K : Act → World → Prop, (∀ v w', Rr i v w' → Grw w w' → Below W.heap.size W w' → K (a.put o.dst v) w') → Region.wanted o (yielded l.toArray a.tmps) = true ∧ o.wp P a w K Q)
    (hend : ∀ (a : Act) (w : World), a.defers = [] → a.tmps.size = a0.tmps.size → Below W.heap.size W w → (∀ i, i < n → Rr i (a.tmps.getD (dd i) undef) w) → Q .normal a w) : (Code.region id l.toArray true).wp P Q a0 w0 := by
  subst hn
  have hdst : ∀ i o, l[i]? = some o → o.dst = some (dd i) := by
    intro i o ho
    have h := congrArg (·[i]?) hdB
    simp only [List.getElem?_map, ho, Option.map_some] at h
    rw [List.getElem?_range (List.getElem?_eq_some_iff.1 ho).1, Option.map_some] at h
    exact Option.some.inj h
  have hacyc := acyc_of (ops := l.toArray) hac
  refine wp_region_any hm (wpAny_sym hacyc (fun D a w => a.defers = [] ∧ a.tmps.size = a0.tmps.size ∧ Below W.heap.size W w ∧ (∀ t, (∀ j, j < l.length → dd j ≠ t) → a.tmps.getD t undef = a0.tmps.getD t undef) ∧ ∀ i, i < l.length → D i = true → Rr i (a.tmps.getD (dd i) undef) w) ?_ ?_ l.toArray.size _ a0 _ (by simp) ?_ ?_)
  · rintro D a w ⟨h1, h2, h3, h4, h5⟩ i o ho hD hdep K hK
    have ho' : l[i]? = some o := by simpa using ho
    have hil : i < l.length := (List.getElem?_eq_some_iff.1 ho').1
    left
    refine hop i o ho' a w h3 h4 (fun e he hb => h5 e.on (by have := hacyc i o ho e he hb; omega) (hdep e he hb)) K fun v w' hR hb hbW => hK _ _ ?_
    have hdi : dd i < a.tmps.size := by rw [h2]; exact hsz i hil
    rw [hdst i o ho']
    refine ⟨h1, by unfold Act.put; simpa using h2, hbW, fun t ht => ?_, fun j hj hDj => ?_⟩
    · rw [putg_ hdi, if_neg (fun e => ht i hil e.symm)]; exact h4 t ht
    · rw [putg_ hdi]
      by_cases e : dd j = dd i
      · rw [if_pos e, hinj j i hj hil e]; exact hR
      · rw [if_neg e]
        have : j ≠ i := fun e2 => e (by rw [e2])
        refine mono j _ w w' (h5 j hj ?_) hb
        unfold add1 at hDj
        rwa [if_neg this] at hDj
  · rintro D a w ⟨h1, h2, h3, h4, h5⟩ hall
    exact hend a w h1 h2 h3 fun i hi => h5 i hi (hall i (by simpa using hi))
  · exact Nat.le_trans (List.length_filter_le _ _) (by simp)
  · have e : ∀ i, (Array.replicate l.toArray.size false).getD i false = false := by
      intro i
      by_cases h : i < l.toArray.size <;> simp [Array.getD]
    refine ⟨hdf, rfl, hw0.drew, fun _ _ => rfl, fun i _ hi => ?_⟩
    replace hi : (Array.replicate l.toArray.size false).getD i false = true := hi
    rw [e] at hi; cases hi
theorem s_raw {fn : Func} {a : Act} {w : World} {R : Ending → World → Prop} {t : Nat} {v : Value} (hd : a.defers = []) (ht : t < a.tmps.size) (hv : a.tmps.getD t undef = v) (hr : fn.results = #[.tmp t]) (hR : R (.returned v) w) : bodyPost P fn R .ret a w := by
  refine ⟨hd, v, ?_, hR⟩
  have htm : a.tmps[t]? = some v := by
    simp only [Array.getD, ht] at hv
    simp at hv
    simp [ht, hv]
  simp only [results, hr]
  simp [htm]
end
end Go.Proofs.YtgojlikjcpnhjaaDoor

namespace Go.Proofs.YtgojlikjcpnhjaaDoor
open Go.RowKit Lo
theorem kept0 {w w' : World} {g : Nat} {c : Array Value} {t : TypeId} {fr : Nat × Nat} (hb : Below w.heap.size w w') (h : w.heap[g]? = some (.cells c t fr)) : w'.heap[g]? = some (.cells c t fr) := (hb.block _ (Array.getElem?_eq_some_iff.1 h).1).trans h
theorem kept {w w' : World} {g : Nat} {c : Array Value} {t : TypeId} (hb : Grw w w') (h : ∃ fr, w.heap[g]? = some (Obj.cells c t fr)) : ∃ fr, w'.heap[g]? = some (Obj.cells c t fr) := by
  obtain ⟨fr, h⟩ := h
  exact hb g c t fr h
theorem conv_b {w : World} {g n : Nat} {C : Array Value} {fr : Nat × Nat} (h : w.heap[g]? = some (Obj.cells C 5 fr)) : (convert 24 24 (.slice (some ⟨g, 0, none⟩) n n)).run Tryd.prog w = .ok (.slice (some ⟨g, 0, none⟩) n n) (w.freeze ⟨g, C.size, none⟩ 1) := by
  have hsh : w.shape? g = some (5, C.size) := by unfold World.shape?; rw [h]
  simp [convert, run_underlying Tryd.underlying24, run_underlying Tryd.underlying5, markStringish, hsh]
theorem frz_g (w : World) (g k : Nat) : Grw w (w.freeze ⟨g, k, none⟩ 1) := by
  intro b c t fr h
  unfold World.freeze
  rw [if_neg (by decide)]
  simp only [Array.getElem?_modify]
  by_cases e : g = b
  · rw [if_pos e, h]; exact ⟨_, rfl⟩
  · rw [if_neg e]; exact ⟨fr, h⟩
theorem frz_b {B : Nat} {W w : World} {g : Nat} (k : Nat) (hb : Below B W w) (hg : B ≤ g) : Below B W (w.freeze ⟨g, k, none⟩ 1) := by
  have e : w.freeze ⟨g, k, none⟩ 1 = { w with heap := (w.freeze ⟨g, k, none⟩ 1).heap } := by unfold World.freeze; rw [if_neg (by decide)]
  have hs : (w.freeze ⟨g, k, none⟩ 1).heap.size = w.heap.size := by unfold World.freeze; rw [if_neg (by decide)]; simp
  refine ⟨by rw [e]; exact hb.os, by rw [e]; exact hb.tape, by rw [e]; exact hb.output, by rw [hs]; exact hb.size, fun b hbb => ?_⟩
  rw [← hb.block b hbb]
  unfold World.freeze
  rw [if_neg (by decide)]
  simp only [Array.getElem?_modify]
  rw [if_neg (by omega)]
def dA (i : Nat) : Nat := if i = 22 then 0 else i + 4
def RA (q n0 : Nat) : Nat → Value → World → Prop
  | 0, v, _ => v = .pointer (some ⟨q, 0, none⟩)
  | 1, v, _ => v = .int .u8 ((59 : Nat) : Int)
  | 2, v, _ => v = .bool true
  | 3, v, _ => v = .bool true
  | 4, v, _ => v = .pointer (some ⟨q, 1, none⟩)
  | 5, v, _ => v = .int .u8 ((106 : Nat) : Int)
  | 6, v, _ => v = .bool true
  | 7, v, _ => v = .bool true
  | 8, v, _ => v = .bool true
  | 9, v, _ => v = .agg (ck (kp (pub fun _ => 0)))
  | 10, v, _ => v = .agg (ck fun _ => 0)
  | 11, v, w => ∃ g, v = .slice (some ⟨g, 0, none⟩) 1 1 ∧ n0 ≤ g ∧ (∃ fr, w.heap[g]? = some (Obj.cells #[.int .u8 97] 5 fr))
  | 12, v, w => ∃ g, v = .slice (some ⟨g, 0, none⟩) 1 1 ∧ n0 ≤ g ∧ (∃ fr, w.heap[g]? = some (Obj.cells #[.int .u8 97] 5 fr))
  | 13, v, w => ∃ g, v = .slice (some ⟨g, 0, none⟩) 1 1 ∧ n0 ≤ g ∧ (∃ fr, w.heap[g]? = some (Obj.cells #[.int .u8 98] 5 fr))
  | 14, v, w => ∃ g, v = .slice (some ⟨g, 0, none⟩) 1 1 ∧ n0 ≤ g ∧ (∃ fr, w.heap[g]? = some (Obj.cells #[.int .u8 98] 5 fr))
  | 15, v, w => ∃ g g1 g2, v = .slice (some ⟨g, 0, none⟩) 2 2 ∧ (∃ fr, w.heap[g]? = some (Obj.cells #[.slice (some ⟨g1, 0, none⟩) 1 1, .slice (some ⟨g2, 0, none⟩) 1 1] 24 fr)) ∧ (∃ fr, w.heap[g1]? = some (Obj.cells #[.int .u8 97] 5 fr)) ∧ (∃ fr, w.heap[g2]? = some (Obj.cells #[.int .u8 98] 5 fr))
  | 16, v, _ => v = .agg (cw (sgn (fun _ => 0) [(1, fun _ => 97), (1, fun _ => 98)]))
  | 17, v, w => ∃ g, v = .slice (some ⟨g, 0, none⟩) 2 2 ∧ n0 ≤ g ∧ (∃ fr, w.heap[g]? = some (Obj.cells #[.int .u8 97, .int .u8 98] 5 fr))
  | 18, v, w => ∃ g, v = .slice (some ⟨g, 0, none⟩) 2 2 ∧ n0 ≤ g ∧ (∃ fr, w.heap[g]? = some (Obj.cells #[.int .u8 97, .int .u8 98] 5 fr))
  | 19, v, w => ∃ g g1, v = .slice (some ⟨g, 0, none⟩) 1 1 ∧ (∃ fr, w.heap[g]? = some (Obj.cells #[.slice (some ⟨g1, 0, none⟩) 2 2] 24 fr)) ∧ (∃ fr, w.heap[g1]? = some (Obj.cells #[.int .u8 97, .int .u8 98] 5 fr))
  | 20, v, _ => v = .bool true
  | 21, v, _ => v = .bool true
  | 22, v, _ => v = .bool true
  | _, _, _ => True
theorem ra_mono (q n0 : Nat) : ∀ i v w w', RA q n0 i v w → Grw w w' → RA q n0 i v w'
  | 0, _, _, _, h, _ => h
  | 1, _, _, _, h, _ => h
  | 2, _, _, _, h, _ => h
  | 3, _, _, _, h, _ => h
  | 4, _, _, _, h, _ => h
  | 5, _, _, _, h, _ => h
  | 6, _, _, _, h, _ => h
  | 7, _, _, _, h, _ => h
  | 8, _, _, _, h, _ => h
  | 9, _, _, _, h, _ => h
  | 10, _, _, _, h, _ => h
  | 11, v, w, w', h, hb => by obtain ⟨g, e, hn, h1⟩ := h; exact ⟨g, e, hn, kept hb h1⟩
  | 12, v, w, w', h, hb => by obtain ⟨g, e, hn, h1⟩ := h; exact ⟨g, e, hn, kept hb h1⟩
  | 13, v, w, w', h, hb => by obtain ⟨g, e, hn, h1⟩ := h; exact ⟨g, e, hn, kept hb h1⟩
  | 14, v, w, w', h, hb => by obtain ⟨g, e, hn, h1⟩ := h; exact ⟨g, e, hn, kept hb h1⟩
  | 15, v, w, w', h, hb => by obtain ⟨g, g1, g2, e, h1, h2, h3⟩ := h; exact ⟨g, g1, g2, e, kept hb h1, kept hb h2, kept hb h3⟩
  | 16, _, _, _, h, _ => h
  | 17, v, w, w', h, hb => by obtain ⟨g, e, hn, h1⟩ := h; exact ⟨g, e, hn, kept hb h1⟩
  | 18, v, w, w', h, hb => by obtain ⟨g, e, hn, h1⟩ := h; exact ⟨g, e, hn, kept hb h1⟩
  | 19, v, w, w', h, hb => by obtain ⟨g, g1, e, h1, h2⟩ := h; exact ⟨g, g1, e, kept hb h1, kept hb h2⟩
  | 20, _, _, _, h, _ => h
  | 21, _, _, _, h, _ => h
  | 22, _, _, _, h, _ => h
  | _ + 23, _, _, _, _, _ => trivial
theorem ev2 {a : Act} {s t : Nat} {x y : Value} (h : a.tmps.getD s undef = x) (k : a.tmps.getD t undef = y) : #[Operand.tmp s, .tmp t].map a.eval = #[x, y] := by
  simp only [List.map_toArray, List.map_cons, List.map_nil, Act.eval, h, k]
theorem ev3 {a : Act} {s t u : Nat} {x y z : Value} (h : a.tmps.getD s undef = x) (k : a.tmps.getD t undef = y) (l : a.tmps.getD u undef = z) : #[Operand.tmp s, .tmp t, .tmp u].map a.eval = #[x, y, z] := by
  simp only [List.map_toArray, List.map_cons, List.map_nil, Act.eval, h, k, l]
theorem al1 (w : World) (o : Obj) : Below w.heap.size w (w.alloc o) := (Below.refl _ _).alloc (Nat.le_refl _) _
theorem bs_1 {w : World} {g x : Nat} {fr : Nat × Nat} (hx : x < 256) (h : w.heap[g]? = some (.cells #[.int .u8 ((x : Nat) : Int)] 5 fr)) : Bs w (some ⟨g, 0, none⟩) 1 (fun _ => x) := ⟨fun _ => hx, fun _ => ⟨g, 0, rfl, fun i hi => by
  obtain rfl : i = 0 := by omega
  rw [cell_of_row _ _ _ _ _ _ h]; rfl⟩⟩
def ab2 : Nat → Nat := cat2 1 (fun _ => 97) (fun _ => 98)
theorem ab2_lt (i : Nat) : ab2 i < 256 := cat2_lt (fun _ => by decide) (fun _ => by decide) i
theorem wnt {ops : Array Oper} {a : Act} {o : Oper} {j d : Nat} (hg : o.guard = some (j, true)) (hd : (ops[j]?).bind (·.dst) = some d) (h : a.tmps.getD d undef = .bool true) : Region.wanted o (yielded ops a.tmps) = true := by
  have ht : a.tmps[d]? = some (.bool true) := by
    rw [Array.getD_eq_getD_getElem?] at h
    cases hx : a.tmps[d]? with
    | none => rw [hx] at h; cases h
    | some x => rw [hx] at h; rw [← h]; rfl
  unfold Region.wanted yielded
  rw [hg]
  simp only [hd, Option.bind_some, ht]
  rfl
theorem bs_2 {w : World} {g : Nat} {fr : Nat × Nat} (h : w.heap[g]? = some (.cells #[.int .u8 97, .int .u8 98] 5 fr)) : Bs w (some ⟨g, 0, none⟩) 2 ab2 := ⟨ab2_lt, fun _ => ⟨g, 0, rfl, fun i hi => by
  have : i = 0 ∨ i = 1 := by omega
  rcases this with rfl | rfl <;> rw [cell_of_row _ _ _ _ _ _ h] <;> rfl⟩⟩
theorem inl {w : World} {g : Nat} {c : Array Value} {t : TypeId} {fr : Nat × Nat} (h : w.heap[g]? = some (.cells c t fr)) : ∀ p, (some ⟨g, 0, none⟩ : Option Addr) = some p → p.block < w.heap.size := fun p e => by cases e; exact (Array.getElem?_eq_some_iff.1 h).1
theorem ps_1f {w : World} {g : Nat} {x : Pt} {a : Option Addr} {ca : Nat} {t : TypeId} {fr : Nat × Nat} (h : w.heap[g]? = some (.cells #[.slice a x.1 ca] t fr)) (ha : Bs w a x.1 x.2) (hca : x.1 ≤ ca) (hla : ∀ p, a = some p → p.block < w.heap.size) : PsAt w (some ⟨g, 0, none⟩) [x] := fun _ =>
  ⟨g, 0, rfl, fun i hi => by
    have hc : i = 0 := by simp at hi; omega
    subst hc
    exact ⟨a, ca, by rw [cell_of_row _ _ _ _ _ _ h]; rfl, ha, hca, hla⟩⟩
theorem ps_2f {w : World} {g : Nat} {x y : Pt} {a b : Option Addr} {ca cb : Nat} {t : TypeId} {fr : Nat × Nat} (h : w.heap[g]? = some (.cells #[.slice a x.1 ca, .slice b y.1 cb] t fr)) (ha : Bs w a x.1 x.2) (hca : x.1 ≤ ca) (hla : ∀ p, a = some p → p.block < w.heap.size) (hb : Bs w b y.1 y.2) (hcb : y.1 ≤ cb) (hlb : ∀ p, b = some p → p.block < w.heap.size) : PsAt w (some ⟨g, 0, none⟩) [x, y] := fun _ =>
  ⟨g, 0, rfl, fun i hi => by
    have hc : i = 0 ∨ i = 1 := by simp at hi; omega
    rcases hc with rfl | rfl
    · exact ⟨a, ca, by rw [cell_of_row _ _ _ _ _ _ h]; rfl, ha, hca, hla⟩
    · exact ⟨b, cb, by rw [cell_of_row _ _ _ _ _ _ h]; rfl, hb, hcb, hlb⟩⟩
theorem sign_ab {w : World} {g g1 g2 : Nat} (hg : Gl w) (h : (∃ fr, w.heap[g]? = some (Obj.cells #[.slice (some ⟨g1, 0, none⟩) 1 1, .slice (some ⟨g2, 0, none⟩) 1 1] 24 fr))) (h1 : (∃ fr, w.heap[g1]? = some (Obj.cells #[.int .u8 97] 5 fr))) (h2 : (∃ fr, w.heap[g2]? = some (Obj.cells #[.int .u8 98] 5 fr))) : Calls Tryd.prog 5 #[.agg (ck fun _ => 0), .slice (some ⟨g, 0, none⟩) 2 2] w fun e w' => e = .returned (.agg (cw (sgn (fun _ => 0) [(1, fun _ => 97), (1, fun _ => 98)]))) ∧ Below w.heap.size w w' := by
  obtain ⟨_, h⟩ := h
  obtain ⟨_, h1⟩ := h1
  obtain ⟨_, h2⟩ := h2
  exact sign_d (L := [(1, fun _ => 97), (1, fun _ => 98)]) hg (fun _ => by decide) (ps_2f (x := (1, fun _ => 97)) (y := (1, fun _ => 98)) h (bs_1 (by decide) h1) (Nat.le_refl _) (inl h1) (bs_1 (by decide) h2) (Nat.le_refl _) (inl h2)) (fun x hx i => by
    rcases List.mem_cons.1 hx with rfl | hx
    · show 97 < 256; decide
    · rcases List.mem_cons.1 hx with rfl | hx
      · show 98 < 256; decide
      · cases hx) (by simp [lenS]) (by simp)
theorem right_ab {w : World} {g g1 : Nat} (hg : Gl w) (h : (∃ fr, w.heap[g]? = some (Obj.cells #[.slice (some ⟨g1, 0, none⟩) 2 2] 24 fr))) (h1 : (∃ fr, w.heap[g1]? = some (Obj.cells #[.int .u8 97, .int .u8 98] 5 fr))) : Calls Tryd.prog 6 #[.agg (ck (kp (pub fun _ => 0))), .agg (cw (sgn (fun _ => 0) [(1, fun _ => 97), (1, fun _ => 98)])), .slice (some ⟨g, 0, none⟩) 1 1] w fun e w' => e = .returned (.bool true) ∧ Below w.heap.size w w' := by
  obtain ⟨_, h⟩ := h
  obtain ⟨_, h1⟩ := h1
  exact right_d (K := [(2, ab2)]) hg (ps_1f (x := (2, ab2)) h (bs_2 h1) (Nat.le_refl _) (inl h1)) (fun x hx i => by
    rcases List.mem_cons.1 hx with rfl | hx
    · exact ab2_lt i
    · cases hx) (by simp [lenS]) (by simp) (by simp [lenS]) (fun M i => join_cat 1 1 (fun _ => 97) (fun _ => 98) M i)
set_option maxHeartbeats 4000000 in
set_option maxRecDepth 100000 in
theorem alive_c {W0 : World} (hg : Gl W0) : Calls Tryd.prog 4 #[] W0 fun e w' => e = .returned (.bool true) ∧ Below W0.heap.size W0 w' := by
  refine s_in Tryd.func4 Tryd.ntmps4 rfl [] ?_
  intro β a h
  refine sym_seq ?_
  refine St.r0 h [(0, .inl (.bool false))] [] ?_ ?_
  · exact oz (k_mv (.inr rfl) rfl) <|
    ok_nil
  clear h; intro β a w h
  refine sym_then ?_
  refine sym_seq ?_
  refine St.rg h [(2, .inl (.agg (ck (fun _ => 0)))), (3, .inl (.agg (ck (kp (pub fun _ => 0))))), (1, .inr (0, pt 0))] [(ck (fun _ => 0), 23)] [(0, ck (kp (pub fun _ => 0)))] [nn, nn, eN 0, eS 0] ?_ ?_
  · exact oc (k_bu #[] (.agg (ck (fun _ => 0))) bdK0 rfl rfl) <|
    oc (k_cw 7 #[.agg (ck (fun _ => 0))] (.agg (ck (kp (pub fun _ => 0)))) (fun w hk => public_d (gl_b hg (KW.below hk)) (fun _ => by decide)) rfl rfl) <|
    oc (k_al 0 alK rfl rfl) <|
    oc (k_st 0 0 (.agg (ck (kp (pub fun _ => 0)))) (c := ck (fun _ => 0)) (n := ck (kp (pub fun _ => 0))) (stK (F := (kp (pub fun _ => 0))) (c := ck (fun _ => 0)) 23 (ck_size _)) rfl rfl) <|
    ok_nil
  clear h; intro β a w h
  refine sym_then ?_
  refine sym_seq ?_
  replace h := St.cs h (s' := [.inl (.bool false), .inr (0, pt 0), .inl (.agg (ck (fun _ => 0))), .inl (.agg (ck (kp (pub fun _ => 0)))), uu, uu, uu, uu, uu, uu, uu, uu, uu, uu, uu, uu, uu, uu, uu, uu, uu, uu, uu, uu, uu, uu]) (m' := [(ck (kp (pub fun _ => 0)), 23)]) (by kernel_rfl) (by kernel_rfl)
  obtain rfl : a = { tmps := #[.bool false, fv (pt 0) (β 0), .agg (ck (fun _ => 0)), .agg (ck (kp (pub fun _ => 0))), undef, undef, undef, undef, undef, undef, undef, undef, undef, undef, undef, undef, undef, undef, undef, undef, undef, undef, undef, undef, undef, undef], defers := [] } := h.tm
  have hq := h.row 0 _ rfl
  have hb0 := KW.below h.bel
  have hgW : ∀ u, Below w.heap.size w u → Gl u := fun u hu => gl_b (gl_b hg hb0) hu
  clear h
  generalize β 0 = q at *
  refine wp_rel w _ w (RA q w.heap.size) dA (by kernel_rfl) (by kernel_rfl) 23 (by kernel_rfl) (by kernel_rfl) ?_ ?_ (ra_mono q _) (Below.refl _ _) rfl ?_ ?_
  · intro i j hi hj e; unfold dA at e; split at e <;> split at e <;> omega
  · intro i hi; show dA i < 26; unfold dA; split <;> omega
  · intro i o ho
    match i, ho with
    | 0, ho =>
      obtain rfl := Option.some.inj ho
      intro a w hbw hsl hdep K hK
      refine ⟨rfl, ?_⟩
      have hp1 : a.tmps.getD 1 undef = .pointer (some ⟨q, 0, none⟩) := hsl 1 (by intro j hj; unfold dA; split <;> omega)
      refine wp_val (w' := w) (v := .pointer (some ⟨q, 0, none⟩)) (by simp only [execOp, Act.eval, hp1]; kernel_rfl) ?_
      exact hK _ _ rfl (grw_b (Below.refl _ _)) hbw
    | 1, ho =>
      obtain rfl := Option.some.inj ho
      intro a w hbw hsl hdep K hK
      refine ⟨rfl, ?_⟩
      have e := hdep ⟨0, .data⟩ (by simp) rfl
      have hqw := kept0 hbw hq
      refine wp_val (w' := w) (v := .int .u8 ((59 : Nat) : Int)) (by have hl := ld_k (F := (kp (pub fun _ => 0))) (i := 0) (t0 := 23) (by decide) w q hqw; rw [pub_zero.1] at hl; simp only [execOp, Act.eval]; rw [show a.tmps.getD 4 undef = _ from e]; simp only [Sem.run_bind, hl, Result.andThen_ok, Sem.run_pure]) ?_
      exact hK _ _ rfl (grw_b (Below.refl _ _)) hbw
    | 2, ho =>
      obtain rfl := Option.some.inj ho
      intro a w hbw hsl hdep K hK
      refine ⟨rfl, ?_⟩
      have e := hdep ⟨1, .data⟩ (by simp) rfl
      refine wp_val (w' := w) (v := .bool true) (by simp only [execOp, Act.eval]; rw [show a.tmps.getD 5 undef = _ from e]; kernel_rfl) ?_
      exact hK _ _ rfl (grw_b (Below.refl _ _)) hbw
    | 3, ho =>
      obtain rfl := Option.some.inj ho
      intro a w hbw hsl hdep K hK
      refine ⟨rfl, ?_⟩
      have e := hdep ⟨2, .data⟩ (by simp) rfl
      refine wp_val (w' := w) (v := .bool true) (by simp only [execOp, Act.eval]; rw [show a.tmps.getD 6 undef = _ from e]; kernel_rfl) ?_
      exact hK _ _ rfl (grw_b (Below.refl _ _)) hbw
    | 4, ho =>
      obtain rfl := Option.some.inj ho
      intro a w hbw hsl hdep K hK
      have hgu := hdep ⟨3, .guard⟩ (by simp) rfl
      refine ⟨wnt (j := 3) (d := 7) rfl rfl hgu, ?_⟩
      have hp1 : a.tmps.getD 1 undef = .pointer (some ⟨q, 0, none⟩) := hsl 1 (by intro j hj; unfold dA; split <;> omega)
      refine wp_val (w' := w) (v := .pointer (some ⟨q, 1, none⟩)) (by simp only [execOp, Act.eval, hp1]; kernel_rfl) ?_
      exact hK _ _ rfl (grw_b (Below.refl _ _)) hbw
    | 5, ho =>
      obtain rfl := Option.some.inj ho
      intro a w hbw hsl hdep K hK
      have hgu := hdep ⟨3, .guard⟩ (by simp) rfl
      refine ⟨wnt (j := 3) (d := 7) rfl rfl hgu, ?_⟩
      have e := hdep ⟨4, .data⟩ (by simp) rfl
      have hqw := kept0 hbw hq
      refine wp_val (w' := w) (v := .int .u8 ((106 : Nat) : Int)) (by have hl := ld_k (F := (kp (pub fun _ => 0))) (i := 1) (t0 := 23) (by decide) w q hqw; rw [pub_zero.2] at hl; simp only [execOp, Act.eval]; rw [show a.tmps.getD 8 undef = _ from e]; simp only [Sem.run_bind, hl, Result.andThen_ok, Sem.run_pure]) ?_
      exact hK _ _ rfl (grw_b (Below.refl _ _)) hbw
    | 6, ho =>
      obtain rfl := Option.some.inj ho
      intro a w hbw hsl hdep K hK
      have hgu := hdep ⟨3, .guard⟩ (by simp) rfl
      refine ⟨wnt (j := 3) (d := 7) rfl rfl hgu, ?_⟩
      have e := hdep ⟨5, .data⟩ (by simp) rfl
      refine wp_val (w' := w) (v := .bool true) (by simp only [execOp, Act.eval]; rw [show a.tmps.getD 9 undef = _ from e]; kernel_rfl) ?_
      exact hK _ _ rfl (grw_b (Below.refl _ _)) hbw
    | 7, ho =>
      obtain rfl := Option.some.inj ho
      intro a w hbw hsl hdep K hK
      refine ⟨rfl, ?_⟩
      have e := hdep ⟨3, .data⟩ (by simp) rfl
      have e2 := hdep ⟨6, .data⟩ (by simp) rfl
      refine wp_val (w' := w) (v := .bool true) (by simp only [execOp, Act.eval]; rw [show a.tmps.getD 7 undef = _ from e, show a.tmps.getD 10 undef = _ from e2]; kernel_rfl) ?_
      exact hK _ _ rfl (grw_b (Below.refl _ _)) hbw
    | 8, ho =>
      obtain rfl := Option.some.inj ho
      intro a w hbw hsl hdep K hK
      refine ⟨rfl, ?_⟩
      have e := hdep ⟨7, .data⟩ (by simp) rfl
      refine wp_val (w' := w) (v := .bool true) (by simp only [execOp, Act.eval]; rw [show a.tmps.getD 11 undef = _ from e]; kernel_rfl) ?_
      exact hK _ _ rfl (grw_b (Below.refl _ _)) hbw
    | 9, ho =>
      obtain rfl := Option.some.inj ho
      intro a w hbw hsl hdep K hK
      have hgu := hdep ⟨8, .guard⟩ (by simp) rfl
      refine ⟨wnt (j := 8) (d := 12) rfl rfl hgu, ?_⟩
      have hp1 : a.tmps.getD 1 undef = .pointer (some ⟨q, 0, none⟩) := hsl 1 (by intro j hj; unfold dA; split <;> omega)
      have hqw := kept0 hbw hq
      refine wp_val (w' := w) (v := .agg (ck (kp (pub fun _ => 0)))) (by have hl := ldK (b := (kp (pub fun _ => 0))) 23 w q hqw; simp only [execOp, Act.eval, hp1, Sem.run_bind, hl, Result.andThen_ok, Sem.run_pure]) ?_
      exact hK _ _ rfl (grw_b (Below.refl _ _)) hbw
    | 10, ho =>
      obtain rfl := Option.some.inj ho
      intro a w hbw hsl hdep K hK
      have hgu := hdep ⟨8, .guard⟩ (by simp) rfl
      refine ⟨wnt (j := 8) (d := 12) rfl rfl hgu, ?_⟩
      refine wp_val (w' := w) (v := .agg (ck fun _ => 0)) (by have hb := bdK0 w; unfold execOp; simp only [Sem.run_bind]; first | (rw [show (#[] : Array (Nat × Operand)).map _ = #[] from rfl, hb]; rfl) | (simp only [Array.map_empty, hb, Result.andThen_ok, Sem.run_pure]) | (simp [hb])) ?_
      exact hK _ _ rfl (grw_b (Below.refl _ _)) hbw
    | 11, ho =>
      obtain rfl := Option.some.inj ho
      intro a w hbw hsl hdep K hK
      have hgu := hdep ⟨8, .guard⟩ (by simp) rfl
      refine ⟨wnt (j := 8) (d := 12) rfl rfl hgu, ?_⟩
      refine wp_val (w' := w.alloc (.cells #[.int .u8 97] 5)) (v := .slice (some ⟨w.heap.size, 0, none⟩) 1 1) (by simp only [execOp, Act.eval]; kernel_rfl) ?_
      exact hK _ _ (⟨_, rfl, hbw.size, _, (MapKept.heap_alloc w _).1⟩) (grw_b (al1 _ _)) (hbw.trans ((al1 _ _).mono hbw.size))
    | 12, ho =>
      obtain rfl := Option.some.inj ho
      intro a w hbw hsl hdep K hK
      have hgu := hdep ⟨8, .guard⟩ (by simp) rfl
      refine ⟨wnt (j := 8) (d := 12) rfl rfl hgu, ?_⟩
      have e0 := hdep ⟨11, .data⟩ (by simp) rfl
      obtain ⟨g, e, hn, fr, hg1⟩ := e0
      have hc : (convert 24 24 (.slice (some ⟨g, 0, none⟩) 1 1)).run Tryd.prog w = .ok (.slice (some ⟨g, 0, none⟩) 1 1) (w.freeze ⟨g, 1, none⟩ 1) := conv_b (n := 1) hg1
      refine wp_val (w' := w.freeze ⟨g, 1, none⟩ 1) (v := .slice (some ⟨g, 0, none⟩) 1 1) (by simp only [execOp, Act.eval]; rw [show a.tmps.getD 15 undef = _ from e]; simp only [Sem.run_bind, hc, Result.andThen_ok, Sem.run_pure]) ?_
      exact hK _ _ ⟨g, rfl, hn, kept (frz_g _ _ _) ⟨_, hg1⟩⟩ (frz_g _ _ _) (frz_b _ hbw hn)
    | 13, ho =>
      obtain rfl := Option.some.inj ho
      intro a w hbw hsl hdep K hK
      have hgu := hdep ⟨8, .guard⟩ (by simp) rfl
      refine ⟨wnt (j := 8) (d := 12) rfl rfl hgu, ?_⟩
      refine wp_val (w' := w.alloc (.cells #[.int .u8 98] 5)) (v := .slice (some ⟨w.heap.size, 0, none⟩) 1 1) (by simp only [execOp, Act.eval]; kernel_rfl) ?_
      exact hK _ _ (⟨_, rfl, hbw.size, _, (MapKept.heap_alloc w _).1⟩) (grw_b (al1 _ _)) (hbw.trans ((al1 _ _).mono hbw.size))
    | 14, ho =>
      obtain rfl := Option.some.inj ho
      intro a w hbw hsl hdep K hK
      have hgu := hdep ⟨8, .guard⟩ (by simp) rfl
      refine ⟨wnt (j := 8) (d := 12) rfl rfl hgu, ?_⟩
      have e0 := hdep ⟨13, .data⟩ (by simp) rfl
      obtain ⟨g, e, hn, fr, hg1⟩ := e0
      have hc : (convert 24 24 (.slice (some ⟨g, 0, none⟩) 1 1)).run Tryd.prog w = .ok (.slice (some ⟨g, 0, none⟩) 1 1) (w.freeze ⟨g, 1, none⟩ 1) := conv_b (n := 1) hg1
      refine wp_val (w' := w.freeze ⟨g, 1, none⟩ 1) (v := .slice (some ⟨g, 0, none⟩) 1 1) (by simp only [execOp, Act.eval]; rw [show a.tmps.getD 17 undef = _ from e]; simp only [Sem.run_bind, hc, Result.andThen_ok, Sem.run_pure]) ?_
      exact hK _ _ ⟨g, rfl, hn, kept (frz_g _ _ _) ⟨_, hg1⟩⟩ (frz_g _ _ _) (frz_b _ hbw hn)
    | 15, ho =>
      obtain rfl := Option.some.inj ho
      intro a w hbw hsl hdep K hK
      have hgu := hdep ⟨8, .guard⟩ (by simp) rfl
      refine ⟨wnt (j := 8) (d := 12) rfl rfl hgu, ?_⟩
      have e0 := hdep ⟨12, .data⟩ (by simp) rfl
      have e1 := hdep ⟨14, .data⟩ (by simp) rfl
      obtain ⟨g1, e, -, hg1⟩ := e0
      obtain ⟨g2, e2, -, hg2⟩ := e1
      refine wp_val (w' := w.alloc (.cells #[.slice (some ⟨g1, 0, none⟩) 1 1, .slice (some ⟨g2, 0, none⟩) 1 1] 24)) (v := .slice (some ⟨w.heap.size, 0, none⟩) 2 2) (by simp only [execOp, Act.eval, List.map_toArray, List.map_cons, List.map_nil]; rw [show a.tmps.getD 16 undef = _ from e, show a.tmps.getD 18 undef = _ from e2]; kernel_rfl) ?_
      exact hK _ _ (⟨_, g1, g2, rfl, ⟨_, (MapKept.heap_alloc w _).1⟩, kept (grw_b (al1 _ _)) hg1, kept (grw_b (al1 _ _)) hg2⟩) (grw_b (al1 _ _)) (hbw.trans ((al1 _ _).mono hbw.size))
    | 16, ho =>
      obtain rfl := Option.some.inj ho
      intro a w hbw hsl hdep K hK
      have hgu := hdep ⟨8, .guard⟩ (by simp) rfl
      refine ⟨wnt (j := 8) (d := 12) rfl rfl hgu, ?_⟩
      have e := hdep ⟨10, .data⟩ (by simp) rfl
      have e0 := hdep ⟨15, .data⟩ (by simp) rfl
      obtain ⟨g, g1, g2, e2, hg, hg1, hg2⟩ := e0
      refine oper_callg 5 #[.tmp 14, .tmp 19] _ rfl #[.agg (ck fun _ => 0), .slice (some ⟨g, 0, none⟩) 2 2] (ev2 e e2) (fun w => by kernel_rfl) (sign_ab (hgW _ hbw) hg hg1 hg2) fun w' hb => ?_
      exact hK _ _ rfl (grw_b hb) (hbw.trans (hb.mono hbw.size))
    | 17, ho =>
      obtain rfl := Option.some.inj ho
      intro a w hbw hsl hdep K hK
      have hgu := hdep ⟨8, .guard⟩ (by simp) rfl
      refine ⟨wnt (j := 8) (d := 12) rfl rfl hgu, ?_⟩
      refine wp_val (w' := w.alloc (.cells #[.int .u8 97, .int .u8 98] 5)) (v := .slice (some ⟨w.heap.size, 0, none⟩) 2 2) (by simp only [execOp, Act.eval]; kernel_rfl) ?_
      exact hK _ _ (⟨_, rfl, hbw.size, _, (MapKept.heap_alloc w _).1⟩) (grw_b (al1 _ _)) (hbw.trans ((al1 _ _).mono hbw.size))
    | 18, ho =>
      obtain rfl := Option.some.inj ho
      intro a w hbw hsl hdep K hK
      have hgu := hdep ⟨8, .guard⟩ (by simp) rfl
      refine ⟨wnt (j := 8) (d := 12) rfl rfl hgu, ?_⟩
      have e0 := hdep ⟨17, .data⟩ (by simp) rfl
      obtain ⟨g, e, hn, fr, hg1⟩ := e0
      have hc : (convert 24 24 (.slice (some ⟨g, 0, none⟩) 2 2)).run Tryd.prog w = .ok (.slice (some ⟨g, 0, none⟩) 2 2) (w.freeze ⟨g, 2, none⟩ 1) := conv_b (n := 2) hg1
      refine wp_val (w' := w.freeze ⟨g, 2, none⟩ 1) (v := .slice (some ⟨g, 0, none⟩) 2 2) (by simp only [execOp, Act.eval]; rw [show a.tmps.getD 21 undef = _ from e]; simp only [Sem.run_bind, hc, Result.andThen_ok, Sem.run_pure]) ?_
      exact hK _ _ ⟨g, rfl, hn, kept (frz_g _ _ _) ⟨_, hg1⟩⟩ (frz_g _ _ _) (frz_b _ hbw hn)
    | 19, ho =>
      obtain rfl := Option.some.inj ho
      intro a w hbw hsl hdep K hK
      have hgu := hdep ⟨8, .guard⟩ (by simp) rfl
      refine ⟨wnt (j := 8) (d := 12) rfl rfl hgu, ?_⟩
      have e0 := hdep ⟨18, .data⟩ (by simp) rfl
      obtain ⟨g1, e, -, hg1⟩ := e0
      refine wp_val (w' := w.alloc (.cells #[.slice (some ⟨g1, 0, none⟩) 2 2] 24)) (v := .slice (some ⟨w.heap.size, 0, none⟩) 1 1) (by simp only [execOp, Act.eval, List.map_toArray, List.map_cons, List.map_nil]; rw [show a.tmps.getD 22 undef = _ from e]; kernel_rfl) ?_
      exact hK _ _ (⟨_, g1, rfl, ⟨_, (MapKept.heap_alloc w _).1⟩, kept (grw_b (al1 _ _)) hg1⟩) (grw_b (al1 _ _)) (hbw.trans ((al1 _ _).mono hbw.size))
    | 20, ho =>
      obtain rfl := Option.some.inj ho
      intro a w hbw hsl hdep K hK
      have hgu := hdep ⟨8, .guard⟩ (by simp) rfl
      refine ⟨wnt (j := 8) (d := 12) rfl rfl hgu, ?_⟩
      have e := hdep ⟨9, .data⟩ (by simp) rfl
      have e1 := hdep ⟨16, .data⟩ (by simp) rfl
      have e0 := hdep ⟨19, .data⟩ (by simp) rfl
      obtain ⟨g, g1, e2, hg, hg1⟩ := e0
      refine oper_callg 6 #[.tmp 13, .tmp 20, .tmp 23] _ rfl #[.agg (ck (kp (pub fun _ => 0))), .agg (cw (sgn (fun _ => 0) [(1, fun _ => 97), (1, fun _ => 98)])), .slice (some ⟨g, 0, none⟩) 1 1] (ev3 e e1 e2) (fun w => by kernel_rfl) (right_ab (hgW _ hbw) hg hg1) fun w' hb => ?_
      exact hK _ _ rfl (grw_b hb) (hbw.trans (hb.mono hbw.size))
    | 21, ho =>
      obtain rfl := Option.some.inj ho
      intro a w hbw hsl hdep K hK
      refine ⟨rfl, ?_⟩
      have e := hdep ⟨8, .data⟩ (by simp) rfl
      have e2 := hdep ⟨20, .data⟩ (by simp) rfl
      refine wp_val (w' := w) (v := .bool true) (by simp only [execOp, Act.eval]; rw [show a.tmps.getD 12 undef = _ from e, show a.tmps.getD 24 undef = _ from e2]; kernel_rfl) ?_
      exact hK _ _ rfl (grw_b (Below.refl _ _)) hbw
    | 22, ho =>
      obtain rfl := Option.some.inj ho
      intro a w hbw hsl hdep K hK
      refine ⟨rfl, ?_⟩
      have e := hdep ⟨21, .data⟩ (by simp) rfl
      refine wp_val (w' := w) (v := .bool true) (by simp only [execOp, Act.eval]; rw [show a.tmps.getD 25 undef = _ from e]; kernel_rfl) ?_
      exact hK _ _ rfl (grw_b (Below.refl _ _)) hbw
    | n + 23, ho => exact absurd ho (by simp)
  · intro a u hd hs hb hall
    refine sym_then ?_
    refine wp_ret ?_
    have hv : a.tmps.getD 0 undef = .bool true := hall 22 (by decide)
    refine s_raw hd (by rw [hs]; show 0 < 26; decide) hv Tryd.results4 ?_
    exact ⟨rfl, hb0.trans (hb.mono hb0.size)⟩
end Go.Proofs.YtgojlikjcpnhjaaDoor

namespace Go.Proofs.YtgojlikjcpnhjaaDoor
open Go.RowKit Lo
set_option maxHeartbeats 4000000 in
theorem back_1 {f : Nat → Nat} {la lb ca cb : Nat} {aa ba : Option Addr} (hla : 1000 < la) (W0 : World) (cA : ∀ w, Below W0.heap.size W0 w → Calls Tryd.prog 4 #[] w fun e w' => e = .returned (.bool true) ∧ Below w.heap.size w w') : Calls Tryd.prog 3 #[.agg (ck f), .slice aa la ca, .slice ba lb cb] W0 fun e w' => e = .returned (.bool true) ∧ Below W0.heap.size W0 w' := by
  refine s_in Tryd.func3 Tryd.ntmps3 rfl [.inl (.agg (ck f)), .inl (.slice aa la ca), .inl (.slice ba lb cb)] ?_
  intro β a h
  refine sym_seq ?_
  refine St.rg h [(3, .inr (0, pt 0)), (6, .inl (.bool false))] [(ck f, 23)] [] [eN 0] ?_ ?_
  · exact oc (k_bx 0 (.agg (ck f)) (bxK (b := f)) rfl rfl) <|
    oz (k_mv (.inr rfl) rfl) <|
    ok_nil
  clear h; intro β a w h
  refine sym_then ?_
  refine sym_seq ?_
  refine sym_seq ?_
  refine St.r0 h [(9, .inl (.bool true)), (10, .inl (.bool false))] [] ?_ ?_
  · exact oz (k_cw 4 #[] (.bool true) (fun w hw => cA w (KW.below hw)) rfl rfl) <|
    oz (k_nt true rfl rfl) <|
    ok_nil
  clear h; intro β a w h
  refine sym_then ?_
  refine s_cf h ?_
  refine wp_skip ?_
  refine sym_then ?_
  refine sym_seq ?_
  refine sym_seq ?_
  refine St.r0 h [(11, .inl (.slice aa la ca)), (12, .inl (.int .i64 ((la : Nat) : Int))), (13, .inl (.bool true)), (14, .inl (.bool true)), (18, .inl (.bool true))] [] ?_ ?_
  · exact oz (k_mv (.inl rfl) rfl) <|
    oz (k_ln la ca rfl rfl (fun w => len_run _ w) (ad := aa)) <|
    oz (k_bi (.int .i64 ((la : Nat) : Int)) (.int .i64 ((1000 : Nat) : Int)) (.bool true) (gt_i (m := ((la : Nat) : Int)) (n := ((1000 : Nat) : Int)) (decide_eq_true (by omega))) rfl rfl) <|
    oz (k_mv (.inl rfl) rfl) <|
    oz (k_sk rfl) <|
    oz (k_sk rfl) <|
    oz (k_sk rfl) <|
    oz (k_pt rfl rfl) <|
    ok_nil
  clear h; intro β a w h
  refine sym_then ?_
  refine s_ct h ?_
  refine sym_seq ?_
  refine St.r0 h [(6, .inl (.bool true))] [] ?_ ?_
  · exact oz (k_mv (.inr rfl) rfl) <|
    ok_nil
  clear h; intro β a w h
  refine sym_then ?_
  refine wp_ret ?_
  refine then_ret ?_
  exact s_rt h Tryd.results3 (fun hb => ⟨rfl, hb⟩)
set_option maxHeartbeats 4000000 in
theorem back_2 {f : Nat → Nat} {la lb ca cb : Nat} {aa ba : Option Addr} (hla : la ≤ 1000) (hlb : 1000 < lb) (W0 : World) (cA : ∀ w, Below W0.heap.size W0 w → Calls Tryd.prog 4 #[] w fun e w' => e = .returned (.bool true) ∧ Below w.heap.size w w') : Calls Tryd.prog 3 #[.agg (ck f), .slice aa la ca, .slice ba lb cb] W0 fun e w' => e = .returned (.bool true) ∧ Below W0.heap.size W0 w' := by
  refine s_in Tryd.func3 Tryd.ntmps3 rfl [.inl (.agg (ck f)), .inl (.slice aa la ca), .inl (.slice ba lb cb)] ?_
  intro β a h
  refine sym_seq ?_
  refine St.rg h [(3, .inr (0, pt 0)), (6, .inl (.bool false))] [(ck f, 23)] [] [eN 0] ?_ ?_
  · exact oc (k_bx 0 (.agg (ck f)) (bxK (b := f)) rfl rfl) <|
    oz (k_mv (.inr rfl) rfl) <|
    ok_nil
  clear h; intro β a w h
  refine sym_then ?_
  refine sym_seq ?_
  refine sym_seq ?_
  refine St.r0 h [(9, .inl (.bool true)), (10, .inl (.bool false))] [] ?_ ?_
  · exact oz (k_cw 4 #[] (.bool true) (fun w hw => cA w (KW.below hw)) rfl rfl) <|
    oz (k_nt true rfl rfl) <|
    ok_nil
  clear h; intro β a w h
  refine sym_then ?_
  refine s_cf h ?_
  refine wp_skip ?_
  refine sym_then ?_
  refine sym_seq ?_
  refine sym_seq ?_
  refine St.r0 h [(11, .inl (.slice aa la ca)), (12, .inl (.int .i64 ((la : Nat) : Int))), (13, .inl (.bool false)), (14, .inl (.bool false)), (15, .inl (.slice ba lb cb)), (16, .inl (.int .i64 ((lb : Nat) : Int))), (17, .inl (.bool true)), (18, .inl (.bool true))] [] ?_ ?_
  · exact oz (k_mv (.inl rfl) rfl) <|
    oz (k_ln la ca rfl rfl (fun w => len_run _ w) (ad := aa)) <|
    oz (k_bi (.int .i64 ((la : Nat) : Int)) (.int .i64 ((1000 : Nat) : Int)) (.bool false) (gt_i (m := ((la : Nat) : Int)) (n := ((1000 : Nat) : Int)) (decide_eq_false (by omega))) rfl rfl) <|
    oz (k_mv (.inl rfl) rfl) <|
    oz (k_mv (.inl rfl) rfl) <|
    oz (k_ln lb cb rfl rfl (fun w => len_run _ w) (ad := ba)) <|
    oz (k_bi (.int .i64 ((lb : Nat) : Int)) (.int .i64 ((1000 : Nat) : Int)) (.bool true) (gt_i (m := ((lb : Nat) : Int)) (n := ((1000 : Nat) : Int)) (decide_eq_true (by omega))) rfl rfl) <|
    oz (k_pf rfl rfl) <|
    ok_nil
  clear h; intro β a w h
  refine sym_then ?_
  refine s_ct h ?_
  refine sym_seq ?_
  refine St.r0 h [(6, .inl (.bool true))] [] ?_ ?_
  · exact oz (k_mv (.inr rfl) rfl) <|
    ok_nil
  clear h; intro β a w h
  refine sym_then ?_
  refine wp_ret ?_
  refine then_ret ?_
  exact s_rt h Tryd.results3 (fun hb => ⟨rfl, hb⟩)
theorem sgn_cat (f fa fb : Nat → Nat) (la lb : Nat) : sgn f [(la + lb, cat2 la fa fb)] = sgn f [(la, fa), (lb, fb)] := by
  have hs : lenS [(la + lb, cat2 la fa fb)] = lenS [(la, fa), (lb, fb)] := by simp [lenS]
  have h : ∀ M, rsd (M ++ [(la + lb, cat2 la fa fb)]) = rsd (M ++ [(la, fa), (lb, fb)]) := fun M => rsd_cong hs fun i => join_cat la lb fa fb M i
  have h1 : r1 f [(la + lb, cat2 la fa fb)] = r1 f [(la, fa), (lb, fb)] := h _
  have h2 : fst_ f [(la + lb, cat2 la fa fb)] = fst_ f [(la, fa), (lb, fb)] := by unfold fst_; rw [h1]
  have h3 : r2 f [(la + lb, cat2 la fa fb)] = r2 f [(la, fa), (lb, fb)] := by unfold r2; rw [h2]; exact h _
  unfold sgn
  rw [h1, h2, h3]
theorem back_d {f fa fb : Nat → Nat} {la lb ca cb : Nat} {aa ba : Option Addr} {W0 : World} (hg : Gl W0) (hf : ∀ i, f i < 256) (hBa : Bs W0 aa la fa) (hca : la ≤ ca) (hxa : ∀ x, aa = some x → x.block < W0.heap.size) (hBb : Bs W0 ba lb fb) (hcb : lb ≤ cb) (hxb : ∀ x, ba = some x → x.block < W0.heap.size) : Calls Tryd.prog 3 #[.agg (ck f), .slice aa la ca, .slice ba lb cb] W0 fun e w' => e = .returned (.bool true) ∧ Below W0.heap.size W0 w' := by
  have cA : ∀ w, Below W0.heap.size W0 w → Calls Tryd.prog 4 #[] w fun e w' => e = .returned (.bool true) ∧ Below w.heap.size w w' := fun w hb => alive_c (gl_b hg hb)
  rcases Nat.lt_or_ge 1000 la with h1 | h1
  · exact back_1 h1 W0 cA
  rcases Nat.lt_or_ge 1000 lb with h2 | h2
  · exact back_2 h1 h2 W0 cA
  have hL2 : ∀ x ∈ [(la, fa), (lb, fb)], ∀ i, x.2 i < 256 := fun x hx i => by
    rcases List.mem_cons.1 hx with rfl | hx
    · exact hBa.1 i
    · rcases List.mem_cons.1 hx with rfl | hx
      · exact hBb.1 i
      · cases hx
  have hL1 : ∀ x ∈ [(la + lb, cat2 la fa fb)], ∀ i, x.2 i < 256 := fun x hx i => by
    rcases List.mem_cons.1 hx with rfl | hx
    · exact cat2_lt hBa.1 hBb.1 i
    · cases hx
  have hp2 : ∀ (w : World) (q : Nat), Below W0.heap.size W0 w → w.heap[q]? = some (.cells #[.slice aa la ca, .slice ba lb cb] 24 (0, 0)) → PsAt w (some ⟨q, 0, none⟩) [(la, fa), (lb, fb)] := fun w q hb hq =>
    ps_2 (x := (la, fa)) (y := (lb, fb)) hq (hBa.later hb) hca (fun p e => Nat.lt_of_lt_of_le (hxa p e) hb.size) (hBb.later hb) hcb (fun p e => Nat.lt_of_lt_of_le (hxb p e) hb.size)
  refine back_q (PK := kp (pub f)) (SG := sgn f [(la, fa), (lb, fb)]) h1 h2 W0 hBa hBb cA (fun w hb => public_d (gl_b hg hb) hf) (fun w q hb hq => ?_) (fun w r cap q hb hr hq => ?_) (fun w q hb hq => ?_) (fun w r cap q hb hr hq => ?_)
  · exact sign_d (L := [(la, fa), (lb, fb)]) (gl_b hg hb) hf (hp2 w q hb hq) hL2 (by simp [lenS]; omega) (by simp)
  · have := sign_d (L := [(la + lb, cat2 la fa fb)]) (pc := 1) (gl_b hg hb) hf (ps_1 (x := (la + lb, cat2 la fa fb)) hq hr.1 hr.2.1 hr.2.2) hL1 (by simp [lenS]; omega) (by simp)
    rw [sgn_cat] at this
    exact this
  · exact right_d (K := [(la, fa), (lb, fb)]) (gl_b hg hb) (hp2 w q hb hq) hL2 (by simp [lenS]; omega) (by simp) rfl (fun _ _ => rfl)
  · exact right_d (K := [(la + lb, cat2 la fa fb)]) (gl_b hg hb) (ps_1 (x := (la + lb, cat2 la fa fb)) hq hr.1 hr.2.1 hr.2.2) hL1 (by simp [lenS]; omega) (by simp) (by simp [lenS]) (fun M i => join_cat la lb fa fb M i)
end Go.Proofs.YtgojlikjcpnhjaaDoor

namespace Go.Proofs.YtgojlikjcpnhjaaDoor
open Go.ChangeShapes Go.WideShapes Go.ChangeAt Go.RowKit Lo
/-! The tables. -/
def laidL : List (String × DataW Unit) := [("cachet/sum.cubes", Rows.laid_cachet_sum_cubes), ("cachet/sum.squares", Rows.laid_cachet_sum_squares)]
theorem gCubes : Tryd.prog.globalNamed "cachet/sum.cubes" = some 1 := by kernel_rfl
theorem gSquares : Tryd.prog.globalNamed "cachet/sum.squares" = some 0 := by kernel_rfl
theorem tCubes : (Tryd.prog.globals[1]?).map (·.type) = some 118 := by kernel_rfl
theorem tSquares : (Tryd.prog.globals[0]?).map (·.type) = some 80 := by kernel_rfl
/-- A row of words that reads as it was laid. -/
theorem row_cells {W : World} {fuel n t : Nat} {cs : List Value} {ns : List Nat} {ps : List MemPlace} {base : Nat} {sp : Nat → Bool} {held : Bool} {enc : TypeId × Value → Unit} (ht : Tryd.prog.underlying t = some (.array n 38)) (h : DataW.trod enc Tryd.prog W base sp held fuel t cs = some (.agg (ns.map fun k => .lit (.int .u64 ((k : Nat) : Int))), ps)) (hn : ns.length = n) :
    ∀ i, i < n → cs[i]? = some (.int .u64 ((ns.getD i 0 : Nat) : Int)) := by
  obtain ⟨xs, m, rfl, hx, hlen, hxs, hel⟩ := DataW.trod_array ht h
  have c1 : Tryd.prog.cellsOf 38 = 1 := by kernel_rfl
  intro i hi
  have h1 := hel i hi
  rw [c1, Nat.mul_one] at h1
  simp only [Prod.mk.injEq, DataW.agg.injEq] at hx
  have hxi : xs[i]? = some xs[i] := List.getElem?_eq_getElem (by omega)
  rw [hxi] at h1
  obtain ⟨k, e1, e2, _⟩ := DataW.trod_int Tryd.underlying38 h1
  have h3 := congrArg (·[i]?) hx.1
  simp only [List.getElem?_map] at h3
  rw [hxi, List.getElem?_eq_getElem (l := ns) (show i < ns.length by omega)] at h3
  simp only [Option.map_some, Option.some.injEq] at h3
  rw [e2] at h3
  have h4 : ((ns[i] : Nat) : Int) = k := by simpa using h3
  have h5 : cs[i]? = (cs.drop i)[0]? := by simp
  have h6 : ((cs.drop i).take 1)[0]? = (cs.drop i)[0]? := by rw [List.getElem?_take]; simp
  rw [h5, ← h6, e1, List.getD_eq_getElem?_getD, List.getElem?_eq_getElem (l := ns) (show i < ns.length by omega), Option.getD_some, h4]
  rfl
theorem cubes_L : (Rows.laid_cachet_sum_cubes : DataW Unit) = .agg (cuL.map fun k => .lit (.int .u64 ((k : Nat) : Int))) := by kernel_rfl
theorem squares_L : (Rows.laid_cachet_sum_squares : DataW Unit) = .agg (sqL.map fun k => .lit (.int .u64 ((k : Nat) : Int))) := by kernel_rfl
theorem of_laid {W : World} (h : laidMetH Tryd.prog laidL W) : Gl W := by
  rw [MakeChecks.laidMetH_plain _ _ _ (by kernel_rfl)] at h
  obtain ⟨ps, ⟨g0, t0, cs0, f0, p0, q0, hg0, ht0, hv0, hd0, ⟨g1, t1, cs1, f1, p1, q1, hg1, ht1, hv1, hd1, _, _⟩, _⟩, _, _⟩ := h
  obtain rfl := Option.some.inj (gCubes.symm.trans hg0)
  obtain rfl := Option.some.inj (gSquares.symm.trans hg1)
  obtain rfl := Option.some.inj (tCubes.symm.trans ht0)
  obtain rfl := Option.some.inj (tSquares.symm.trans ht1)
  rw [cubes_L] at hd0
  rw [squares_L] at hd1
  refine ⟨fun i hi => ?_, fun i hi => ?_⟩
  · rw [World.var?_cell hg1 hv1 i, ← Array.getElem?_toList]
    exact row_cells Tryd.underlying80 hd1 (by kernel_rfl) i hi
  · rw [World.var?_cell hg0 hv0 i, ← Array.getElem?_toList]
    exact row_cells Tryd.underlying118 hd0 (by kernel_rfl) i hi
theorem door_met (os : Os) (args : Array Value) : laidMetH Tryd.prog laidL ((World.doorLaid Tryd.prog 400 os).forCall (fun _ _ => 0) ⟨#[], args, []⟩).memory :=
  laidMetH_of_parts3 (fuel := 8) (laidMet_of_run' 8 (by kernel_rfl) (by kernel_rfl)) (by kernel_rfl) (by kernel_rfl)

theorem bs_zs {w : World} {x : Addr} {len : Nat} {zs : List Int} (hl : len ≤ zs.length) (hcell : ∀ i, i < zs.length → w.cell? (x.add i) = some (.int .u8 (zs.getD i 0))) (hwz : ∀ n ∈ zs, (Lit.int .u8 n).wf = true) : ∃ f, Bs w (some x) len f := by
  have hby : ∀ i, i < zs.length → 0 ≤ zs.getD i 0 ∧ zs.getD i 0 < 256 := by
    intro i hi
    have hm : zs.getD i 0 ∈ zs := by rw [List.getD_eq_getElem?_getD, List.getElem?_eq_getElem hi]; exact List.getElem_mem hi
    have := hwz _ hm
    simp only [Lit.wf, Bool.and_eq_true, decide_eq_true_eq] at this
    have e1 : IntKind.u8.min = 0 := rfl
    have e2 : IntKind.u8.max = 255 := rfl
    omega
  refine ⟨fun i => (zs.getD i 0).toNat % 256, fun i => Nat.mod_lt _ (by omega), fun hp => ?_⟩
  obtain ⟨b, off, spot⟩ := x
  have hc := hcell 0 (by omega)
  have hspot : spot = none := by simpa [Addr.add] using World.cell?_spot hc
  subst hspot
  refine ⟨b, off, rfl, fun i hi => ?_⟩
  have h1 := hcell i (by omega)
  rw [Addr.add_lit] at h1
  rw [h1]
  show _ = some (Value.int .u8 (((zs.getD i 0).toNat % 256 : Nat) : Int))
  have h2 := hby i (by omega)
  generalize zs.getD i 0 = z at *
  have h3 : ((z.toNat % 256 : Nat) : Int) = z := by omega
  rw [h3]
theorem ck_ab (b : Nat → Nat) : ck b = ab 32 b := rfl
section
variable {H : Type} {enc : TypeId × Value → H} {W : World} {held : Bool}
/-- Bytes. -/
theorem bytes_in {a : Option Addr} {len cap : Nat} {d : DataW H} {p : List MemPlace} (h : DataW.Trod enc Tryd.prog W 0 (fun _ => true) held 24 (.slice a len cap) d p) : ∃ f, Bs W a len f ∧ len ≤ cap ∧ ∀ x, a = some x → 0 < len → x.block < W.heap.size := by
  obtain ⟨fuel, hf⟩ := h
  rcases open_ints Tryd.underlying24 Tryd.underlying5 (by kernel_rfl) hf with ⟨hcs, _⟩ | ⟨x, l, c, zs, hcs, _, hl, hm, hz, _, hcell, hwz⟩
  · simp [Value.cells] at hcs
    obtain ⟨rfl, rfl, rfl⟩ := hcs
    exact ⟨fun _ => 0, ⟨fun _ => (by decide : 0 < 256), fun h => absurd h (by omega)⟩, Nat.le_refl _, fun x e => by cases e⟩
  · simp [Value.cells] at hcs
    obtain ⟨rfl, rfl, rfl⟩ := hcs
    obtain ⟨f, hb⟩ := bs_zs (w := W) (x := x) (len := len) (zs := zs) (by simp at hz; omega) hcell hwz
    refine ⟨f, hb, hl, fun y e hp => ?_⟩
    obtain ⟨b, off, e2, hc⟩ := hb.2 hp
    rw [e2] at e
    cases e
    exact cell_lt (hc 0 hp)
end
set_option maxRecDepth 100000 in
theorem has_lt {W : World} {r : Reach} {base : Nat} {a : Option Addr} {len cap : Nat} (h : Value.okWide Tryd.prog W r base 24 (.slice a len cap)) : ∀ x, a = some x → x.block < W.heap.size := by
  rintro x rfl
  simp only [Value.okWide, Tryd.underlying24, Cell.okWide, Cell.ok] at h
  obtain ⟨-, -, h⟩ := h
  unfold World.has at h
  obtain ⟨-, -, row, cs, hs, -⟩ := h
  rcases Nat.lt_or_ge x.block W.heap.size with h1 | h1
  · exact h1
  · unfold World.shape? at hs
    rw [Array.getElem?_eq_none h1] at hs
    cases hs
end Go.Proofs.YtgojlikjcpnhjaaDoor
